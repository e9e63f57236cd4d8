import Derived.Test.YtmlmkaiibamabaaGreatDoorShelf
import Derived.Test.YtmlmkaiibamabaaGreatDoorSyg02
import Derived.Lib.SlKeysI
import Derived.Maps.RangeWalk
import Derived.Lib.SlMapMerge
import Derived.OwnWalk
import Derived.Deep.CutRange
import Derived.Shelf.SlSortCmp.WholeK
import Derived.Lib.SlicesCompact
set_option linter.unusedVariables false
set_option linter.unusedSimpArgs false
set_option maxRecDepth 100000
set_option maxHeartbeats 40000000
namespace Go.Proofs.YtmlmkaiibamabaaGreatDoor
open Go.ChangeShapes Go.WideShapes Go.ChangeAt Go.RowKit Go.Maps Go.Sort Go.Shelf Go.Proofs.Tryz
open Go.Value renaming slice → Uf, int → Ug, pointer → Uk, tuple → Ul, string → Um, bool → Un, agg → Uo
open Go.IntKind renaming i64 → Uh
open Go.Ending renaming returned → Ui
open Go.Obj renaming cells → Uj
open Option renaming none → Up, some → Uq
open Go renaming World → Ur, Addr → Us
open List renaming mem_append → UY, mem_singleton → UF, pairwise_singleton → UZ, length_append → UB, getD → UA, mem_cons_self → Vc, mem_cons_of_mem → Ve, foldl_cons → Vf, append_assoc → Vg, eq_nil_or_concat → Vh, concat_eq_append → Vi, range → UW, range_succ → Vj, ne_nil_of_mem → Vk, take_add_one → Vl, length_map → Vm, take_length → Vn, length_take → Vo, take_of_length_le → Vp, length_cons → Vq, map_append → UC, map_cons → UD, map_nil → Vr, flatMap_cons → Vs, pairwise_iff_getElem → Vt, getElem?_take_of_lt → Vu, take_prefix → Vv, mem_of_getLast? → Vw, length_singleton → Vx, map_congr_left → Vy, sum_cons → Vz
open Int renaming lt_or_le → VA, le_refl → VC, le_trans → VD, natCast_nonneg → UI
open Go.World renaming ownsRow_nil → VE, ownsRow_lit → VF, cell?_of_block → US, grownBy_alloc → VG, frozen?_of_block → UT, cell?_setCell_same → UM, cell?_setCell_far → UJ, setCell → UL, cell?_setCell_other → UN, frozen?_setCell → UK, cell?_alloc_at → VH, cell?_alloc_past → VI, frozen?_alloc_at → VJ, frozen?_alloc_past → VK
open Nat renaming zero_le → Ux, le_refl → Uv, add_sub_cancel → Uy, lt_of_lt_of_le → Ut, eq_zero_or_pos → VL, pow_succ → Uu, pow_zero → VM, div_one → VN, add_zero → VO, le_trans → Uw
open Go.IntKind renaming wrap_u64 → UU, wrap_i64 → VP
variable {B b bm c cb e g h i j k n x':Nat}{F R T f:Nat ->Int}{L:Int ->List (Int×Int)}{P:Program}{W w w' w0 w1 w2 w7:Ur}{a:Option Us}{l la lb m:List (Int×Int)}{left q r x:Int}{ob:Obj}{p:List ByteArray}{s t:ByteArray}{u0 u1 v v0 v1 v2 v3 v4:Value}{y:Ky}
theorem Qpk (m:Nat):AnyZI.SortsIn prog Tryz.sortedA_ren Fence.wide m:=
 ⟨fun blk off cap ss W hH hblk hsz=>callsIn_wide.2 (AnyM.slices_Sort_int Tryz.sortA blk off cap ss W hH hblk hsz),
  fun p cap W=>callsIn_wide.2 (AnyM.slices_Sort_int_none Tryz.sortA p cap W)⟩
theorem QoG (mb:Option Nat)(W:Ur):Cl 105 #[.map mb] W fun e w'=>e=Ui (.func (.func 130) #[] #[Uk (Uc W.heap.size)])/\ w'=W.alloc (Uj #[.map mb] 126):=
 (callsIn_wide (n:=5)).1 (AnyZI.keys_in Tryz.keysA Fence.wide 5 trivial rfl mb W)
theorem QjQ {H:Type}(b nn:Nat)(D0:DataW H)(R:Value ->Option (DataW H×List MemPlace))(w:Ur)(hown:w.ownsMap prog 3 R b nn D0)(hmax:Maps.size D0<=maxLen)(hbytes:Maps.size D0*8<=140737488355328):
  Cl 104 #[.func (.func 130) #[] #[Uk (Uc w.heap.size)]] (w.alloc (Uj #[.map (Uq b)] 126)) fun e w'=>∃(v:Value) (j:List Int),e=Ui v/\ j.Perm (intKeys D0)/\
   w'.ownsRow (w.heap.size+1) 3 1 v j.length ((j.mergeSort (fun x y=>decide (x<=y))).map encZ)/\ Bl w w':=by
 have t:=hown.lt;have i:SeqGives Fence.wide 2 prog 130 #[Uk (Uc w.heap.size)] encZ (fun j=>j.Perm (intKeys D0)) (Maps.size D0) (w.alloc (Uj #[.map (Uq b)] 126)):=
  AnyZI.keys_gives (ρ:=Tryz.keysA_ren) {Tryz.keysA with} Fence.wide _ trivial rfl oM w.heap.size b nn D0 _ oP oP (by
   obtain⟨z,u,k,r,o,h⟩:=hown;exact⟨z,u,(Below.heap_alloc _ _ b t).trans k,r,o,h⟩)
 have m:=AnyZI.sorted_in Tryz.sortedA Fence.wide 5 trivial trivial trivial trivial rfl oM (Qpk _) (enters_of func129 oK rfl) 130 #[Uk (Uc w.heap.size)] trivial (enters_of func130 oK rfl) _ _ hmax hbytes _ i;change CallsIn _ _ prog 104 _ _ _ at m;refine((callsIn_wide (n:=5)).1 m).mono ?_;rintro e w' ⟨v,j,rfl,g,q,p,k⟩;refine⟨v,j,rfl,g,?_,((Below.refl _ w).alloc zL _).trans (k.mono oP)⟩;have e:(w.alloc (Uj #[.map (Uq b)] 126)).heap.size=w.heap.size+1:=oP;rw [e] at q;exact q
def KS (L:Int ->List (Int×Int)):Nat ->List Int
 | 0=>[]
 | k+1=>KS L k++(if (L (k:Int)).isEmpty then [] else [(k:Int)])
theorem Qdz (L:Int ->List (Int×Int))(k:Nat):∀x,x∈KS L k↔(0<=x/\ x<k/\ (L x).isEmpty=false):=by
 induction k with
 | zero=>intro x;simp [KS];omega
 | succ k ih=>
  intro x;simp only [KS,UY,ih];by_cases e:(L (k:Int)).isEmpty=true
  ·rw [if_pos e];constructor
   ·rintro(⟨a,b,c⟩|h)
    ·exact⟨a,oM,c⟩
    ·simp at h
   ·rintro⟨a,b,c⟩;refine .inl ⟨a,?_,c⟩;rcases VA x k with h|h
    ·exact h
    ·have:x=(k:Int):=oM;rw [this,e] at c;cases c
  ·rw [if_neg e];simp only [Bool.not_eq_true] at e;constructor
   ·rintro(⟨a,b,c⟩|h)
    ·exact⟨a,oM,c⟩
    ·rw [UF] at h;subst h;exact⟨oM,oM,e⟩
   ·rintro⟨a,b,c⟩;rcases VA x k with h|h
    ·exact .inl ⟨a,h,c⟩
    ·exact .inr (List.mem_singleton.2 oM)
theorem Qks (L:Int ->List (Int×Int))(k:Nat):(KS L k).Pairwise (fun x y=>x<y):=by
 induction k with
 | zero=>exact List.Pairwise.nil
 | succ k ih=>
  simp only [KS];refine List.pairwise_append.2 ⟨ih,?_,fun x hx y hy=> ?_⟩
  ·split
   ·exact List.Pairwise.nil
   ·exact UZ _ _
  ·have:=(Qdz L k x).1 hx;split at hy
   ·cases hy
   ·rw [UF] at hy;omega
theorem QfY (L:Int ->List (Int×Int))(k:Nat):(KS L k).length<=k:=by
 induction k with
 | zero=>simp [KS]
 | succ k ih=>simp only [KS,UB];split<;>simp<;>omega
theorem Qjy{D:DataW Value}{G:Int ->Value}(h:QaH w bm n D G L)(hL:∀r,L r≠[] ->0<=r/\ r<8):(KS L 8).Perm (intKeys D)/\ Maps.size D=(KS L 8).length:=by
 obtain⟨u,j,g,_⟩:=h.own.entries (int_keyed underlying3);obtain⟨y,k,z⟩:=h.own.keysOf;obtain rfl:u=y:=by rw [j] at k;simpa using k
 have q:(KS L 8).Perm (intKeys D):=by
  have m:=h.has';rw [j] at m ⊢;refine perm_intKeys g (fun p hp=>by obtain⟨v,t⟩:=z p hp;obtain⟨x,_,o,_⟩:=Maps.keyOf_i64 underlying3 t;exact⟨x,o⟩) ((Qks L 8).imp (fun h=>oM)) (fun x=> ?_);have:=m x;unfold kI at this;rw [this,Qdz];constructor
  ·rintro⟨_,_,c⟩;rw [c];rfl
  ·intro c;have c':(L x).isEmpty=false:=oU c;have:=hL x (by intro e;rw [e] at c';cases c');exact⟨this.1,this.2,c'⟩
 refine⟨q,?_⟩;rw [q.length_eq,j];simp [Maps.size_eq,intKeys]
theorem QfZ{ss ks:List Int}(h1:(KS L 8).Perm ks)(h2:ss.Perm ks):ss.mergeSort (fun x y=>decide (x<=y))=KS L 8:=by
 rw [mergeSort_of_perm_i (h2.trans h1.symm)];refine List.mergeSort_of_pairwise ((Qks L 8).imp (fun h=> ?_));simp;omega
theorem QcM {R F T:Nat ->Int}:∀k:Nat,Qeo R F T k ->∀r,Lk R F T k r≠[] ->0<=r/\ r<8
 | 0,_=>fun r h=>absurd rfl h
 | k+1,h=>fun r hr=>by
  have j:=Qbm.1 (h k oM).1;by_cases e:r=R k
  ·subst e;exact⟨j.1,j.2.1⟩
  ·have m:Lk R F T (k+1) r=Lk R F T k r:=Qai _ _ e;rw [m] at hr;exact QcM k (fun i hi=>h i oM) r hr
def Qny (L:Int ->List (Int×Int))(r:Int):List Int:=uvF 9 r.toNat++Qko (L r)
def QfV (L:Int ->List (Int×Int))(ks:List Int):Nat ->List Int
 | 0=>[]
 | k+1=>QfV L ks k++Qny L (ks.getD k 0)
def Qet (L:Int ->List (Int×Int)):List Int:=uvF 9 (KS L 8).length++QfV L (KS L 8) (KS L 8).length
theorem Qic {L:Int ->List (Int×Int)}(hL:∀r,(L r).length<=1000)(ks:List Int):∀k,(QfV L ks k).length<=30000*k
 | 0=>by simp [QfV]
 | k+1=>by
  have:=Qic hL ks k;have j:=(Qah 9 (ks.getD k 0).toNat).1;have m:=Qk9 (L (ks.getD k 0));have q:=hL (ks.getD k 0);simp only [QfV,Qny,UB];omega
theorem QaH.gr{D:DataW Value}{G:Int ->Value}(h:QaH w bm n D G L){row:Option Nat}(hg:w.grownBy w1 row)(hr:Uq bm≠row)(hro:∀r g,(G r).ownBlock=Uq g ->Uq g≠row):QaH w1 bm n D G L:=
 ⟨h.own.kept hg hr,h.at',h.has',fun r=>(h.rows r).kept hg (by
  cases e:(G r).ownBlock with
  | none=>exact .inl rfl
  | some g=>exact .inr (hro r g e)),h.apart⟩
theorem Qid{m cap:Nat}{zs:List Int}(h:w.ownsRow B 3 1 (Uf (Uc g) m cap) m (zs.map encZ))(hl:zs.length=m):∀i,i<m ->w.cell? (Ua g i)=Uq (Ud (zs.getD i 0)):=by
 intro i hi;rw [h.cellAt i oM];simp [UA,show i<zs.length by omega]
theorem QiM{D:DataW Value}{G:Int ->Value}(hgrp:QaH w bm n D G L)(HLen:Hid (∀r,(L r).length<=1000))(HSrt:Hid (∀r,Srt (L r)))(HRep:Hid (∀r,L r≠[] ->0<=r/\ r<8)):
  Cl 72 #[.map (Uq bm),Ue] w fun e w'=>∃v,e=Ui v/\ Own w' w.heap.size v (Qet L)/\ Bl w w':=by
 obtain⟨T,Z⟩:=Qjy hgrp HRep;obtain⟨q,o⟩:=zE (KS L 8);have Ho:Hid (Qet L=uvF 9 q.length++QfV L q q.length):=by unfold Qet;rw [o];exact rfl
 have Gn:q.length<=8:=o▸QfY L 8;have Hk:Hid (∀x∈q,0<=x/\ x<8/\ L x≠[]):=fun x hx=>by
  rw [<- o] at hx;have:=(Qdz L 8 x).1 hx;exact⟨this.1,oM,fun e=>by rw [e] at this;simp at this⟩
 have Hp:Hid (∀b:List Int,b.Perm (intKeys D) ->b.mergeSort (fun x y=>decide (x<=y))=q/\ b.length=q.length):=fun b hs=>by rw [<- o];exact⟨QfZ T hs,by rw [hs.length_eq,<- T.length_eq]⟩
 rw [o] at Z;clear o T;have Hd:=hgrp.own.len underlying126;rw [Z] at Hd;have O:=hid hgrp;have HU:=Qah 9 q.length;clear hgrp;have x0:IntKind.u64.wrap ((q.length:Nat):Int)=(q.length:Int):=Qe8 _ oM oM;go_enter func72,ntmps72;go_wp2_with fail;refine(Qku w.heap.size q.length _ [] w oM zL oP (VE _ _ _ _)).mono ?_;rintro e H ⟨M,rfl,Hu,X,Gq⟩;have Q:=hid Hu;have W:=hid X;have H7:=O.own.lt;have I:=hid (O.bw X);clear Hu X Hd;go_wp2_with fail;refine(QoG (Uq bm) H).mono ?_;rintro e w3 ⟨rfl,rfl⟩;go_wp2_with fail;refine(QjQ bm n D Qc5 H I.own (by rw [Z];unfold maxLen;omega) (by rw [Z];omega)).mono ?_;rintro e z ⟨v4,b,rfl,Ha,u,A⟩;obtain⟨Hq,N⟩:=Hp b Ha;rw [Hq,N] at u;have Ga:=N;clear Ha Hq N Hp;have Hv:Own z w.heap.size M (uvF 9 q.length):=Q.kept A (fun k t=>(World.ownsRow.lt Q k t).2);have Hz:∀k,M.ownBlock=Uq k ->w.heap.size<=k/\ k<H.heap.size:=fun k t=>World.ownsRow.lt Q k t;have s:=hid Hz;have g4:QaH z bm n D G L:=I.bw A;have H0:=hid g4;have Hb:Hid (∀r g,(G r).ownBlock=Uq g ->g<w.heap.size):=fun r g E=>((O.rows r).lt g E).2;have Hm:=hid (W.trans (A.mono oM));have z4:H.heap.size<=z.heap.size:=A.size;have Hn:=hid Hv;clear A Q W I O g4 Hv Hz;rcases u.2 with ⟨rfl,J⟩|⟨g,cap,Gj,rfl,Gk,E,Gp,H8,H9,Hh⟩
 ·have HE:Hid (Qet L=uvF 9 q.length):=by show Qet L=_;rw [Ho.out,J];simp [QfV]
  have H4:=hid u;clear u;go_wp2_with fail;refine wp_loop_rounds 1 ?_;rw [rounds_succ];go_wp2_with fail;go_ret;exact⟨M,rfl,by rw [HE.out];exact Hn,Hm⟩
 have HC:Hid (∀i,i<q.length ->z.cell? (Ua g i)=Uq (Ud (q.getD i 0))):=Qid u rfl;have Hl:Uq g≠M.ownBlock:=fun e=>oH ((s g e.symm).2);have Gm:g<z.heap.size:=(u.lt g rfl).2;unfold maxLen at H8;clear u E H9 Hh;go_wp2_with fail;go_loopw [1,16] (fun b' i wr=>∃(k:Nat) (p:List Int),k<=q.length/\ i=Ud k/\ Hid (Own wr w.heap.size b' p)/\ Hid (p=uvF 9 q.length++QfV L q k)/\ Hid (Gr z wr M b')/\ z.heap.size<=wr.heap.size) (fun _ i _=>q.length - (intOf i).toNat);case atStart=>exact⟨0,_,Ux _,rfl,Hn,hid (by simp [QfV]),hid (Gr.refl _ _),Uv _⟩
 case round=>
  obtain⟨k,p,t,rfl,Hf,S,C,Gi⟩:=hrel;by_cases F:k<q.length
  ·have R:=Hk (q.getD k 0) (by simp [UA,F]);obtain⟨m,P⟩:∃m:Nat,q.getD k 0=(m:Int):=⟨(q.getD k 0).toNat,oM⟩;have Hr:=C.g.cell (HC k F) Hl;have Gu:p.length<=10+30000*k:=(by rw [S.out];have:=Qic HLen q k;simp;omega);have H3:Hid (QfV L q (k+1)=QfV L q k++(uvF 9 m++Qko (L (m:Int)))):=(by show QfV L q k++Qny L (q.getD k 0)=_;rw [P];rfl);rw [P] at R Hr;have Go:m<8:=oM;have He:=R.2.2;have x3:IntKind.u64.wrap (m:Int)=(m:Int):=Qe8 _ oM oM;clear R P;go_wp2_with fail;refine(QaU w.heap.size m u1 p wr oM oM oM Hf).mono ?_;rintro e w5 ⟨v5,rfl,Hw,Hs,Gs⟩;have V:=C.trans Hs;have K:QaH w5 bm n D G L:=H0.gr V.g (fun e=>by have:=(s _ e.symm).1;omega) (fun r g E e=>by have:=(s _ e.symm).1;have:=Hb r g E;omega);have Ht:=K.look (m:Int) (wfI oM oM);have Y:=K.rows (m:Int);rcases Y.2 with ⟨_,J⟩|⟨U,cs,cu,eG,Gc,Gd,Ge,Gf,Gg,Gh⟩
   ·exact absurd (List.eq_nil_of_length_eq_zero J) He
   have Gl:=Hb (m:Int) U (by rw [eG];rfl);rw [eG] at Ht Y;have Hy:=QjU Y rfl;have Hc:Uq U≠v5.ownBlock:=fun e=>by
    rcases V.l with h|⟨j,h,hj⟩
    ·have:=(s U (h▸e.symm)).1;omega
    ·rw [h] at e;injection e with e;omega
   have l5:=(Qah 9 m).1;have Hg:=HSrt (m:Int);have Gb:=HLen (m:Int);have H1:=hid Hw;have Hi:=hid V;have H5:=hid Hy;have H6:=hid Hg;clear Hy Y K Hw V Gc Gd Ge Gf Gg Gh Hs Hr Hg He;go_wp2_with fail;refine(QgG w.heap.size v5 (p++uvF 9 m) (Uc U) cs (L (m:Int)) w5 oM oS H1 H5 (fun x hx=>by injection hx with hx;subst hx;exact Hc) H6 Gb).mono ?_;rintro e w6 ⟨v6,rfl,Hx,B⟩;have H2:=hid Hx;have Hj:=hid (Hi.trans B);have Gt:=B.g.size;clear Hx B Ht;go_wp2_with fail;go_roundw;case rel=>exact⟨k+1,_,F,oN,H2,hid (by rw [H3.out,S.out];simp),Hj,oM⟩
   case measure=>exact oE
  ·obtain rfl:k=q.length:=oM;go_wp2_with fail;go_ret;refine⟨_,rfl,?_,Hm.trans (C.bw oM (fun k t=>oH ((s k t).1)))⟩;rw [Ho.out,<- S.out];exact Hf
theorem QaB (w:Ur)(x y z:Value)(t:TypeId):∀j u,[x,y,z][j]? =Uq u ->(w.alloc (Uj #[x,y,z] t)).cell? (((Ub w.heap.size):Us).add j)=Uq u:=by
 intro j u k;match j,k with
 | 0,k=>simp at k;subst k;simp [Addr.add]
 | 1,k=>simp at k;subst k;simp [Addr.add]
 | 2,k=>simp at k;subst k;simp [Addr.add]
def Qa8 (r:Int)(l:List (Int×Int)):List Value:=l.flatMap fun p=>[Ud r,Ud p.1,Ud p.2]
theorem QfI (r:Int)(l:List (Int×Int))(p:Int×Int):Qa8 r (l++[p])=Qa8 r l++[Ud r,Ud p.1,Ud p.2]:=by simp [Qa8]
theorem QaT.at(h:QaT w a n R F T)(hk:k<n):∃b off,a=Uq (Ua b off)/\ b<w.heap.size/\ w.cell? (Ua b (off+k*3))=Uq (Ud (R k))/\ w.cell? (Ua b (off+k*3+1))=Uq (Ud (F k))/\ w.cell? (Ua b (off+k*3+2))=Uq (Ud (T k)):=by
 rcases h with h|⟨b,off,rfl,j,m⟩
 ·omega
 ·exact⟨b,off,rfl,j,m k hk⟩
theorem Qpp (a:Option Us)(n c:Nat)(R F T:Nat ->Int)(rep:Int)(w:Ur)(hn:n<=1048576)(h:QaT w a n R F T):
  Cl 86 #[Uo #[Uf a n c],Ud rep] w fun e w'=>∃v,e=Ui v/\ w'.ownsRow w.heap.size 89 3 v (Lk R F T n rep).length (Qa8 rep (Lk R F T n rep))/\ Bl w w':=by
 obtain⟨i0,hi,Hb,Hc,Hd⟩:=info_parts Tryz.infoRun;obtain⟨L,j⟩:∃L:Nat ->List (Int×Int),(fun k=>Lk R F T k rep)=L:=⟨_,rfl⟩;have E:Lk R F T n rep=L n:=by rw [<- j]
 have U:Hid (L 0=[]):=by show L 0=[];rw [<- j];rfl
 have Z:Hid (∀k,R k=rep ->L (k+1)=L k++[(F k,T k)]):=fun k e=>by
  rw [<- j];show upd _ _ _ _=_;rw [<- e,Qaq]
 have Y:Hid (∀k,R k≠rep ->L (k+1)=L k):=fun k e=>by
  rw [<- j];show upd _ _ _ _=_;rw [Qai _ _ (fun h=>e h.symm)]
 have V:Hid (∀k,(L k).length<=k):=fun k=>j▸Qbx R F T k rep;rw [E];clear E j;have Ha:(w.alloc (Uj #[Uf a n c] 26)).cell? (Ub w.heap.size)=Uq (Uf a n c):=oP;go_enter func86,ntmps86;go_wp2_with fail;go_loopw [5,6] (fun v i wr=>∃k:Nat,k<=n/\ i=Ud k/\ Hid (wr.ownsRow (w.heap.size+1) 89 3 v (L k).length (Qa8 rep (L k)))/\ Hid (Bl w wr)/\ wr.cell? (Ub w.heap.size)=Uq (Uf a n c)/\ w.heap.size+1<=wr.heap.size) (fun _ i _=>n - (intOf i).toNat);case atStart=>
  refine⟨0,Ux _,rfl,?_,hid (Qad _ _ _),oP,oP⟩;rw [U.out];have:=VF (base:=w.heap.size+1) (e:=89) (size:=3) (w.alloc (Uj #[Uf a n c] 26)) #[] 0 oP oL rfl;exact hid (by simpa [Qa8] using this)
 case round=>
  obtain⟨k,M,rfl,y,z,p,W⟩:=hrel;by_cases s:k<n
  ·obtain⟨b,off,rfl,hb,C,D,P⟩:=(h.bw z).at s;have Hf:=V k;by_cases q:R k=rep
   ·have N:(R k==rep)=true:=(by simp [q]);have m:=Z k q;subst q;have o:=hid m;have X:Uq w.heap.size≠u5.ownBlock:=fun e=>by have:=(y.lt _ e.symm).1;omega
    clear m;go_wp2_with (at_builtin;refine Qar rfl _ _ 24 rfl (w.heap.size+1) 89 i0 _ 3 24 underlying24 hi Hb Hc Hd rfl oD _ _ _ rfl (y.alloc _) (Ub wr.heap.size) 1 1 [Ud (R k),Ud (F k),Ud (T k)] rfl rfl ?c1 ?c2 ?c3 ?c4 ?c5 ?_);case c1=>exact QaB _ _ _ _ _
    case c2=>intro u Q;simp at Q;rcases Q with rfl|rfl|rfl<;>rfl
    case c3=>unfold maxLen;omega
    case c4=>omega
    case c5=>simp;omega
    ·intro v' w1 O t S;have G:Hid (w1.ownsRow (w.heap.size+1) 89 3 v' (L (k+1)).length (Qa8 (R k) (L (k+1)))):=by
      rw [o.out,QfI,UB];exact O
     have H:Hid (Bl w w1):=(z.alloc oM _).grown t oS (fun k M=>oH ((y.lt k M).1));have I:w1.cell? (Ub w.heap.size)=Uq (Uf (Uq (Ua b off)) n c):=t.cell (by rw [Below.cell (B:=wr.heap.size) (zO _ _) (show w.heap.size<wr.heap.size by omega)];exact p) X;have J:=t.size;simp at J;clear O t S C D P p;go_wp2_with fail;go_roundw;case rel=>exact⟨k+1,s,oN,G,H,I,oM⟩
     case measure=>exact oE
   ·have N:(R k==rep)=false:=(by simp [q]);have m:=Y k q;have o:=hid m;clear m;go_wp2_with fail;go_roundw;case rel=>exact⟨k+1,s,oN,by rw [o.out];exact y,z,p,W⟩
    case measure=>exact oE
  ·obtain rfl:k=n:=oM;go_wp2_with fail;go_ret;refine⟨_,rfl,?_,z⟩;obtain⟨q1,A⟩:=y.out;refine⟨q1,?_⟩;rcases A with A|⟨g,cap,K,rfl,He,r⟩
   ·exact .inl A
   ·exact .inr ⟨g,cap,K,rfl,oM,r⟩
theorem QaO (m:Nat)(w:Ur)(hm:m<=1000000000):
  Cl 87 #[Ud (m:Int)] w fun e w'=>∃v,e=Ui v/\ Own w' w.heap.size v (uvF 9 m)/\ Bl w w'/\ w.heap.size<w'.heap.size:=by
 have r:IntKind.u64.wrap (m:Int)=(m:Int):=Qe8 _ oM oM;go_enter func87,ntmps87;go_wp2_with fail;refine(Qmc 9 m w zL (show m<128^(9+1) by omega) oM).mono ?_;rintro e w1 ⟨v,rfl,k,j,q⟩;go_wp2_with fail;go_ret;exact⟨v,rfl,k,j,q⟩
abbrev Rn:=Int×Int×Int
def Apt (p q:Rn):Prop:=p.1<q.1 \/(p.1=q.1/\ p.2.2+1<q.2.1)
instance (p q:Rn):Decidable (Apt p q):=by unfold Apt;infer_instance
def Rok (p:Rn):Prop:=0<=p.1/\ p.1<8/\ 1<=p.2.1/\ p.2.1<=p.2.2/\ p.2.2<=1000000000
def Qcy (l:List Rn):Prop:=l.Pairwise Apt/\∀p∈l,Rok p
def InR (p:Rn)(r x:Int):Prop:=p.1=r/\ p.2.1<=x/\ x<=p.2.2
def RI (l:List Rn)(r x:Int):Prop:=∃p∈l,InR p r x
theorem Apt.trans {p q s:Rn}(h1:Apt p q)(hq:Rok q)(h2:Apt q s):Apt p s:=by
 unfold Apt Rok at*;omega
theorem Qff {p:Rn}{l:List Rn}:RI (p::l) r x↔InR p r x \/RI l r x:=by simp [RI]
theorem Qby {l l':List Rn}:RI (l++l') r x↔RI l r x \/RI l' r x:=by
 constructor
 ·rintro⟨p,j,h⟩;rcases List.mem_append.1 j with j|j
  ·exact .inl ⟨p,j,h⟩
  ·exact .inr ⟨p,j,h⟩
 ·rintro(⟨p,j,h⟩|⟨p,j,h⟩)
  ·exact⟨p,List.mem_append.2 (.inl j),h⟩
  ·exact⟨p,List.mem_append.2 (.inr j),h⟩
theorem Qh3 {p:Rn}:RI [p] r x↔InR p r x:=by simp [RI]
theorem QiI:¬RI [] r x:=by simp [RI]
theorem QhD {p q:Rn}{l:List Rn}(h:Qcy (p::l))(j:q∈p::l):p.1<q.1 \/(p.1=q.1/\ p.2.1<=q.2.1):=by
 rcases List.mem_cons.1 j with rfl|j
 ·exact .inr ⟨rfl,VC _⟩
 ·have k:=(List.pairwise_cons.1 h.1).1 q j;have m:=h.2 p (Vc);unfold Apt Rok at*;omega
theorem Qkk {p p':Rn}{t t':List Rn}(h:Qcy (p::t))(h':Qcy (p'::t'))(he:∀r x,RI (p::t) r x ->RI (p'::t') r x)(hf:p.1=p'.1/\ p.2.1=p'.2.1):p.2.2<=p'.2.2:=by
 have g:=h.2 p Vc;have o:=h'.2 p' Vc;rcases VA p'.2.2 p.2.2 with z|m
 ·exfalso;have k:RI (p::t) p.1 (p'.2.2+1):=⟨p,Vc,rfl,by unfold Rok at*;omega,oM⟩;obtain⟨q,j,u,v,y⟩:=he _ _ k;rcases List.mem_cons.1 j with rfl|j
  ·omega
  ·have:=(List.pairwise_cons.1 h'.1).1 q j;unfold Apt at this;omega
 ·exact m
theorem uniq:∀{l l':List Rn},Qcy l ->Qcy l' ->(∀r x,RI l r x↔RI l' r x) ->l=l'
 | [],[],_,_,_=>rfl
 | [],p'::t',_,h',he=>by
  have y:=h'.2 p' Vc;exact absurd ((he p'.1 p'.2.1).2 ⟨p',Vc,rfl,VC _,y.2.2.2.1⟩) QiI
 | p::t,[],h,_,he=>by
  have v:=h.2 p Vc;exact absurd ((he p.1 p.2.1).1 ⟨p,Vc,rfl,VC _,v.2.2.2.1⟩) QiI
 | p::t,p'::t',h,h',he=>by
  have v:=h.2 p Vc;have y:=h'.2 p' Vc;have m:p.1=p'.1/\ p.2.1=p'.2.1:=by
   obtain⟨q,j,O,U,Y⟩:=(he p.1 p.2.1).1 ⟨p,Vc,rfl,VC _,v.2.2.2.1⟩;obtain⟨N,A,Q,V,Z⟩:=(he p'.1 p'.2.1).2 ⟨p',Vc,rfl,VC _,y.2.2.2.1⟩;have a:=QhD h' j;have b:=QhD h A;omega
  have g:=Qkk h h' (fun r x=>(he r x).1) m;have o:=Qkk h' h (fun r x=>(he r x).2) ⟨m.1.symm,m.2.symm⟩;have i:p=p':=by
   obtain⟨a,b,c⟩:=p;obtain⟨a',b',c'⟩:=p';simp at m g o;obtain⟨rfl,rfl⟩:=m;have:c=c':=oM;rw [this]
  subst i;have z:∀{s:List Rn},Qcy (p::s) ->∀{r x},RI s r x ->¬InR p r x:=by
   rintro s E r x ⟨q,j,G,H,I⟩ ⟨J,K,L⟩;have:=(List.pairwise_cons.1 E.1).1 q j;unfold Apt at this;omega
  have M:t=t':=by
   refine uniq ⟨(List.pairwise_cons.1 h.1).2,fun q j=>h.2 q (Ve _ j)⟩ ⟨(List.pairwise_cons.1 h'.1).2,fun q j=>h'.2 q (Ve _ j)⟩ (fun r x=> ?_);have e:=he r x;rw [Qff,Qff] at e;constructor
   ·intro u;rcases e.1 (.inr u) with k|k
    ·exact absurd k (z h u)
    ·exact k
   ·intro u;rcases e.2 (.inr u) with k|k
    ·exact absurd k (z h' u)
    ·exact k
  rw [M]
def QaE (s:List Rn×Rn×List Rn)(q:Rn):List Rn×Rn×List Rn:=
 if Apt q s.2.1 then(s.1++[q],s.2.1,s.2.2) else if Apt s.2.1 q then(s.1,s.2.1,s.2.2++[q]) else(s.1,(s.2.1.1,min q.2.1 s.2.1.2.1,max q.2.2 s.2.1.2.2),s.2.2)
def QgV (l:List Rn)(r:Rn):List Rn×Rn×List Rn:=l.foldl QaE ([],r,[])
def ins (l:List Rn)(r:Rn):List Rn:=(QgV l r).1++[(QgV l r).2.1]++(QgV l r).2.2
structure Inv (s:List Rn×Rn×List Rn)(t:List Rn):Prop where
 b:Qcy s.1
 a:Qcy s.2.2
 r:Rok s.2.1
 br:∀p∈s.1,Apt p s.2.1
 ra:∀p∈s.2.2,Apt s.2.1 p
 bt:∀p∈s.1,∀q∈t,Apt p q
 at':∀p∈s.2.2,∀q∈t,Apt p q
 t:Qcy t
def RS (s:List Rn×Rn×List Rn)(r x:Int):Prop:=RI s.1 r x \/InR s.2.1 r x \/RI s.2.2 r x
theorem Qcy.snoc {l:List Rn}{q:Rn}(h:Qcy l)(hq:Rok q)(ha:∀p∈l,Apt p q):Qcy (l++[q]):=
 ⟨List.pairwise_append.2 ⟨h.1,UZ _ _,fun p j q' hq'=>by rw [UF] at hq';subst hq';exact ha p j⟩,fun p j=>by
  rcases List.mem_append.1 j with j|j
  ·exact h.2 p j
  ·rw [UF] at j;subst j;exact hq⟩
theorem Inv.step {s:List Rn×Rn×List Rn}{q:Rn}{t:List Rn}(h:Inv s (q::t)):Inv (QaE s q) t/\∀r x,RS (QaE s q) r x↔(RS s r x \/InR q r x):=by
 have v:=h.t.2 q Vc;have y:=(List.pairwise_cons.1 h.t.1).1;have u:Qcy t:=⟨(List.pairwise_cons.1 h.t.1).2,fun p j=>h.t.2 p (Ve _ j)⟩;have m:=fun p j q' (hq':q'∈t)=>h.bt p j q' (Ve _ hq');have k:=fun p j q' (hq':q'∈t)=>h.at' p j q' (Ve _ hq');unfold QaE;split
 ·rename_i hA;refine⟨⟨h.b.snoc v (fun p j=>h.bt p j q Vc),h.a,h.r,fun p j=> ?_,h.ra,fun p j=> ?_,k,u⟩,fun r x=> ?_⟩
  ·rcases List.mem_append.1 j with j|j
   ·exact h.br p j
   ·rw [UF] at j;subst j;exact hA
  ·rcases List.mem_append.1 j with j|j
   ·exact m p j
   ·rw [UF] at j;subst j;exact y
  ·simp only [RS,Qby,Qh3];constructor
   ·rintro((a|a)|a|a)
    ·exact .inl (.inl a)
    ·exact .inr a
    ·exact .inl (.inr (.inl a))
    ·exact .inl (.inr (.inr a))
   ·rintro((a|a|a)|a)
    ·exact .inl (.inl a)
    ·exact .inr (.inl a)
    ·exact .inr (.inr a)
    ·exact .inl (.inr a)
 ·rename_i hA;split
  ·rename_i hB;refine⟨⟨h.b,h.a.snoc v (fun p j=>h.at' p j q Vc),h.r,h.br,fun p j=> ?_,m,fun p j=> ?_,u⟩,fun r x=> ?_⟩
   ·rcases List.mem_append.1 j with j|j
    ·exact h.ra p j
    ·rw [UF] at j;subst j;exact hB
   ·rcases List.mem_append.1 j with j|j
    ·exact k p j
    ·rw [UF] at j;subst j;exact y
   ·simp only [RS,Qby,Qh3];constructor
    ·rintro(a|a|a|a)
     ·exact .inl (.inl a)
     ·exact .inl (.inr (.inl a))
     ·exact .inl (.inr (.inr a))
     ·exact .inr a
    ·rintro((a|a|a)|a)
     ·exact .inl a
     ·exact .inr (.inl a)
     ·exact .inr (.inr (.inl a))
     ·exact .inr (.inr (.inr a))
  ·rename_i hB;have i:=h.r;have nil:∀p∈s.2.2,False:=fun p j=>hB ((h.ra p j).trans (h.a.2 p j) (h.at' p j q Vc));refine⟨⟨h.b,h.a,?_,fun p j=> ?_,fun p j=>(nil p j).elim,m,k,u⟩,fun r x=> ?_⟩
   ·unfold Apt Rok at*;simp only;omega
   ·have g:=h.br p j;have o:=h.bt p j q Vc;unfold Apt at*;simp only;omega
   ·have z:InR (s.2.1.1,min q.2.1 s.2.1.2.1,max q.2.2 s.2.1.2.2) r x↔(InR s.2.1 r x \/InR q r x):=by
     unfold InR Apt Rok at*;simp only;omega
    simp only [RS,z];constructor
    ·rintro(a|(a|a)|a)
     ·exact .inl (.inl a)
     ·exact .inl (.inr (.inl a))
     ·exact .inr a
     ·exact .inl (.inr (.inr a))
    ·rintro((a|a|a)|a)
     ·exact .inl a
     ·exact .inr (.inl (.inl a))
     ·exact .inr (.inr a)
     ·exact .inr (.inl (.inr a))
theorem Inv.fold:∀(t:List Rn) (s:List Rn×Rn×List Rn),Inv s t ->Inv (t.foldl QaE s) []/\∀r x,RS (t.foldl QaE s) r x↔(RS s r x \/RI t r x)
 | [],s,h=>⟨h,fun r x=>by simp [RI]⟩
 | q::t,s,h=>by
  obtain⟨j,k⟩:=h.step;obtain⟨m,u⟩:=Inv.fold t _ j;refine⟨m,fun r x=> ?_⟩;rw [Vf,u r x,k r x,Qff,or_assoc]
theorem QoA {l:List Rn}{r:Rn}(hl:Qcy l)(hr:Rok r):Qcy (ins l r)/\∀y x,RI (ins l r) y x↔(RI l y x \/InR r y x):=by
 have m:Inv ([],r,[]) l:=⟨⟨List.Pairwise.nil,(fun p j=>by cases j)⟩,⟨List.Pairwise.nil,(fun p j=>by cases j)⟩,hr,(fun p j=>by cases j),(fun p j=>by cases j),(fun p j=>by cases j),(fun p j=>by cases j),hl⟩;obtain⟨h,u⟩:=Inv.fold l _ m;change Inv (QgV l r) [] at h;refine⟨⟨?_,fun p j=> ?_⟩,fun y x=> ?_⟩
 ·unfold ins;rw [Vg];refine List.pairwise_append.2 ⟨h.b.1,List.pairwise_append.2 ⟨UZ _ _,h.a.1,fun p j q k=> ?_⟩,fun p j q k=> ?_⟩
  ·rw [UF] at j;subst j;exact h.ra q k
  ·rcases List.mem_append.1 k with k|k
   ·rw [UF] at k;subst k;exact h.br p j
   ·exact(h.br p j).trans h.r (h.ra q k)
 ·unfold ins at j;rcases List.mem_append.1 j with j|j
  ·rcases List.mem_append.1 j with j|j
   ·exact h.b.2 p j
   ·rw [UF] at j;subst j;exact h.r
  ·exact h.a.2 p j
 ·have:=u y x;unfold ins;rw [Qby,Qby,Qh3];change RS (QgV l r) y x↔_ at this;unfold RS at this;rw [or_assoc,this];simp [RI];exact or_comm
def unF (l b:List Rn):List Rn:=b.foldl ins l
theorem Qd7:∀(b l:List Rn),Qcy l ->(∀p∈b,Rok p) ->Qcy (unF l b)/\∀y x,RI (unF l b) y x↔(RI l y x \/RI b y x)
 | [],l,h,_=>⟨h,fun y x=>by simp [unF,RI]⟩
 | q::b,l,h,hb=>by
  obtain⟨j,k⟩:=QoA h (hb q Vc);obtain⟨m,r⟩:=Qd7 b (ins l q) j (fun p hp=>hb p (Ve _ hp));refine⟨m,fun y x=> ?_⟩;show RI (unF (ins l q) b) y x↔_;rw [r,k,Qff,or_assoc]
def In (l:List (Int×Int))(x:Int):Prop:=∃p∈l,p.1<=x/\ x<=p.2
theorem QcL {l':List (Int×Int)}:In (l++l') x↔In l x \/In l' x:=by
 constructor
 ·rintro⟨p,j,h⟩;rcases List.mem_append.1 j with j|j
  ·exact .inl ⟨p,j,h⟩
  ·exact .inr ⟨p,j,h⟩
 ·rintro(⟨p,j,h⟩|⟨p,j,h⟩)
  ·exact⟨p,List.mem_append.2 (.inl j),h⟩
  ·exact⟨p,List.mem_append.2 (.inr j),h⟩
theorem Qh0 {p:Int×Int}:In [p] x↔p.1<=x/\ x<=p.2:=by simp [In]
theorem Qmn {p:Int×Int}:In (p::l) x↔(p.1<=x/\ x<=p.2) \/In l x:=by simp [In]
theorem QiD:¬In [] x:=by simp [In]
def QgF (l:List (Int×Int))(p:Int×Int):List (Int×Int):=match l.getLast? with
 | none=>[p]
 | some q=>if q.2+1<p.1 then l++[p] else l.dropLast++[(q.1,max q.2 p.2)]
theorem Qh6 (p:Int×Int):QgF [] p=[p]:=rfl
theorem Qh5{q p:Int×Int}(h:q.2+1<p.1):QgF (l++[q]) p=l++[q]++[p]:=by
 simp [QgF,h]
theorem QiL{q p:Int×Int}(h:¬q.2+1<p.1):QgF (l++[q]) p=l++[(q.1,max q.2 p.2)]:=by
 simp [QgF,h]
def Sok (p:Int×Int):Prop:=1<=p.1/\ p.1<=p.2/\ p.2<=1000000000
theorem Srt.snoc{p:Int×Int}(h:Srt l)(hp:Sok p)(ha:∀q∈l,q.2+1<p.1):Srt (l++[p]):=
 ⟨List.pairwise_append.2 ⟨h.1,UZ _ _,fun q j p' hp'=>by rw [UF] at hp';subst hp';exact ha q j⟩,fun q j=>by
  rcases List.mem_append.1 j with j|j
  ·exact h.2 q j
  ·rw [UF] at j;subst j;exact hp⟩
theorem Srt.split{q:Int×Int}(h:Srt (l++[q])):Srt l/\ Sok q/\∀p∈l,p.2+1<q.1:=by
 obtain⟨k,j⟩:=h;obtain⟨a,_,c⟩:=List.pairwise_append.1 k;exact⟨⟨a,fun p hp=>j p (List.mem_append.2 (.inl hp))⟩,j q oP,fun p hp=>c p hp q oP⟩
theorem Qmt{p:Int×Int}(h:Srt l)(hp:Sok p)(hle:∀q∈l,q.1<=p.1):
  Srt (QgF l p)/\ (∀x,In (QgF l p) x↔(In l x \/(p.1<=x/\ x<=p.2)))/\ (∀q∈QgF l p,q.1<=p.1)/\ (QgF l p).length<=l.length+1:=by
 rcases Vh l with rfl|⟨y,q,rfl⟩
 ·rw [Qh6];exact⟨⟨UZ _ _,fun q k=>by rw [UF] at k;subst k;exact hp⟩,fun x=>by simp [In],fun q k=>by rw [UF] at k;subst k;exact VC _,oP⟩
 ·simp only [Vi] at*;obtain⟨u,v,r⟩:=h.split;have k:=hle q oP;by_cases m:q.2+1<p.1
  ·rw [Qh5 m];refine⟨h.snoc hp (fun p' j=> ?_),fun x=>by rw [QcL,Qh0],fun p' j=> ?_,oP⟩
   ·rcases List.mem_append.1 j with j|j
    ·have:=r p' j;unfold Sok at v;omega
    ·rw [UF] at j;subst j;exact m
   ·rcases List.mem_append.1 j with j|j
    ·exact hle p' j
    ·rw [UF] at j;subst j;exact VC _
  ·rw [QiL m];refine⟨u.snoc ?_ r,fun x=> ?_,fun p' j=> ?_,oP⟩
   ·unfold Sok at*;simp only;omega
   ·rw [QcL,QcL,Qh0,Qh0,or_assoc];have:(q.1<=x/\ x<=max q.2 p.2)↔((q.1<=x/\ x<=q.2) \/(p.1<=x/\ x<=p.2)):=(by unfold Sok at*;omega);simp only [this]
   ·rcases List.mem_append.1 j with j|j
    ·exact hle p' (List.mem_append.2 (.inl j))
    ·rw [UF] at j;subst j;exact k
structure Qga (la lb m:List (Int×Int))(i j:Nat):Prop where
 s:Srt m
 le:∀q∈m,(∀p∈la.drop i,q.1<=p.1)/\ (∀p∈lb.drop j,q.1<=p.1)
 in':∀x,(In m x \/In (la.drop i) x \/In (lb.drop j) x)↔(In la x \/In lb x)
 len:m.length+(la.length - i)+(lb.length - j)<=la.length+lb.length
theorem Qga.start (la lb:List (Int×Int)):Qga la lb [] 0 0:=
 ⟨⟨List.Pairwise.nil,fun p hp=>by cases hp⟩,(fun q hq=>by cases hq),fun x=>by simp [In],oP⟩
theorem QgN(hi:i<l.length):l.drop i=l.getD i (0,0)::l.drop (i+1):=by
 rw [List.drop_eq_getElem_cons hi];simp [UA,hi]
theorem Qik(h:Srt l)(hi:i<l.length):Sok (l.getD i (0,0))/\∀p∈l.drop (i+1),(l.getD i (0,0)).1<=p.1:=by
 have k:l.getD i (0,0)∈l:=by simp [UA,hi]
 refine⟨h.2 _ k,fun p hp=> ?_⟩;have j:=List.Pairwise.sublist (List.drop_sublist i l) h.1;rw [QgN hi] at j;have:=(List.pairwise_cons.1 j).1 p hp;have:=h.2 _ k;omega
theorem Qga.stepA(ha:Srt la)(hb:Srt lb)(h:Qga la lb m i j)(hi:i<la.length)(hab:j<lb.length ->(la.getD i (0,0)).1<=(lb.getD j (0,0)).1):Qga la lb (QgF m (la.getD i (0,0))) (i+1) j:=by
 obtain⟨k,y⟩:=Qik ha hi;have e:=QgN hi;obtain⟨z,g,u,t⟩:=Qmt h.s k (fun q hq=>(h.le q hq).1 _ (by rw [e];simp));refine⟨z,fun q hq=>⟨fun p k=>VD (u q hq) (y p k),fun p k=>VD (u q hq) ?_⟩,fun x=> ?_,?_⟩
 ·by_cases r:j<lb.length
  ·have v:=QgN r;rw [v] at k;rcases List.mem_cons.1 k with rfl|k
   ·exact hab r
   ·exact VD (hab r) ((Qik hb r).2 p k)
  ·rw [List.drop_eq_nil_of_le oM] at k;cases k
 ·rw [<- h.in' x,g x,e,Qmn,or_assoc,or_assoc]
 ·have:=h.len;omega
theorem Qga.stepB(ha:Srt la)(hb:Srt lb)(h:Qga la lb m i j)(hj:j<lb.length)(hab:i<la.length ->(lb.getD j (0,0)).1<=(la.getD i (0,0)).1):Qga la lb (QgF m (lb.getD j (0,0))) i (j+1):=by
 have r:Qga lb la m j i:=⟨h.s,fun q hq=>⟨(h.le q hq).2,(h.le q hq).1⟩,fun x=>by rw [or_comm (a:=In lb x),<- h.in' x,or_comm (a:=In (la.drop i) x)],oH h.len⟩;have k:=Qga.stepA hb ha r hj hab;exact⟨k.s,fun q hq=>⟨(k.le q hq).2,(k.le q hq).1⟩,fun x=>by rw [or_comm (a:=In la x),<- k.in' x,or_comm (a:=In (la.drop i) x)],oH k.len⟩
theorem Qga.done(h:Qga la lb m la.length lb.length):Srt m/\ (∀x,In m x↔(In la x \/In lb x))/\ m.length<=la.length+lb.length:=by
 refine⟨h.s,fun x=> ?_,oH h.len⟩;rw [<- h.in' x];simp [In]
def flat (R F T:Nat ->Int)(n:Nat):List Rn:=(UW n).map fun i=>(R i,F i,T i)
def tag (r:Int)(l:List (Int×Int)):List Rn:=l.map fun p=>(r,p.1,p.2)
def Qdt (L:Int ->List (Int×Int))(k:Nat):List Rn:=(KS L k).flatMap fun r=>tag r (L r)
theorem QcU (R F T:Nat ->Int)(n:Nat):flat R F T (n+1)=flat R F T n++[(R n,F n,T n)]:=by simp [flat,Vj]
theorem QdT (R F T:Nat ->Int):∀(n:Nat) (r x:Int),RI (flat R F T n) r x↔In (Lk R F T n r) x
 | 0,r,x=>by simp [flat,Lk,RI,In]
 | n+1,r,x=>by
  rw [QcU,Qby,Qh3,QdT R F T n r x];by_cases e:r=R n
  ·subst e;have:Lk R F T (n+1) (R n)=Lk R F T n (R n)++[(F n,T n)]:=Qaq _ _ _;rw [this,QcL,Qh0];simp [InR]
  ·have:Lk R F T (n+1) r=Lk R F T n r:=Qai _ _ e;rw [this];simp [InR,Ne.symm e]
theorem Qbh {R F T:Nat ->Int}:∀(n:Nat),Qeo R F T n ->Qcy (flat R F T n)
 | 0,_=>⟨by simp [flat],fun p j=>by simp [flat] at j⟩
 | n+1,h=>by
  have q:=Qbh n (fun i hi=>h i oM);have v:=Qbm.1 (h n oM).1;rw [QcU];refine q.snoc v (fun p j=> ?_);cases n with
  | zero=>simp [flat] at j
  | succ m=>
   have k:=(h (m+1) oM).2 oM;unfold QaD at k;have k:=of_decide_eq_true k;rw [Uy] at k;have r:Apt (R m,F m,T m) (R (m+1),F (m+1),T (m+1)):=k;rw [QcU] at j q;rcases List.mem_append.1 j with j|j
   ·have u:=(List.pairwise_append.1 q.1).2.2 p j _ (List.mem_singleton.2 rfl);exact u.trans (q.2 _ oP) r
   ·rw [UF] at j;subst j;exact r
theorem Qn3(h:Srt l)(h0:0<=r)(h8:r<8):Qcy (tag r l):=by
 refine⟨List.pairwise_map.2 (h.1.imp (fun hh=> .inr ⟨rfl,hh⟩)),fun p hp=> ?_⟩;obtain⟨q,j,rfl⟩:=List.mem_map.1 hp;have:=h.2 q j;exact⟨h0,h8,this⟩
theorem Qpu{y:Int}:RI (tag r l) y x↔(r=y/\ In l x):=by
 constructor
 ·rintro⟨p,u,k,m⟩;obtain⟨q,j,rfl⟩:=List.mem_map.1 u;exact⟨k,q,j,m⟩
 ·rintro⟨rfl,q,j,h⟩;exact⟨_,List.mem_map.2 ⟨q,j,rfl⟩,rfl,h⟩
theorem Qer(h:(L (k:Int)).isEmpty=false):Qdt L (k+1)=Qdt L k++tag (k:Int) (L (k:Int)):=by
 simp [Qdt,KS,h]
theorem Qeq(h:(L (k:Int)).isEmpty=true):Qdt L (k+1)=Qdt L k:=by
 simp [Qdt,KS,h]
theorem QfB {L:Int ->List (Int×Int)}(hL:∀r,Srt (L r)):∀k:Nat,k<=8 ->Qcy (Qdt L k)/\ (∀y x,RI (Qdt L k) y x↔(0<=y/\ y<k/\ In (L y) x))/\∀p∈Qdt L k,p.1<k
 | 0,_=>⟨⟨by simp [Qdt,KS],fun p j=>by simp [Qdt,KS] at j⟩,fun y x=>by simp [Qdt,KS,RI];omega,fun p j=>by simp [Qdt,KS] at j⟩
 | k+1,hk=>by
  obtain⟨m,z,u⟩:=QfB hL k oM;by_cases e:(L (k:Int)).isEmpty=true
  ·rw [Qeq e];refine⟨m,fun y x=> ?_,fun p j=>oH (u p j)⟩;rw [z];constructor
   ·rintro⟨a,b,c⟩;exact⟨a,oM,c⟩
   ·rintro⟨a,b,c⟩;refine⟨a,?_,c⟩;rcases VA y k with h|h
    ·exact h
    ·have:y=(k:Int):=oM;subst this;have:L (k:Int)=[]:=oU e;rw [this] at c;exact absurd c QiD
  ·have e:(L (k:Int)).isEmpty=false:=oU e;rw [Qer e];have v:=Qn3 (hL (k:Int)) (by omega:(0:Int)<=k) oM;refine⟨⟨List.pairwise_append.2 ⟨m.1,v.1,fun p j q hq=> ?_⟩,fun p j=> ?_⟩,fun y x=> ?_,fun p j=> ?_⟩
   ·obtain⟨g,_,rfl⟩:=List.mem_map.1 hq;exact .inl (u p j)
   ·rcases List.mem_append.1 j with j|j
    ·exact m.2 p j
    ·exact v.2 p j
   ·rw [Qby,z,Qpu];constructor
    ·rintro(⟨a,b,c⟩|⟨rfl,c⟩)
     ·exact⟨a,oM,c⟩
     ·exact⟨oM,oM,c⟩
    ·rintro⟨a,b,c⟩;rcases VA y k with h|h
     ·exact .inl ⟨a,h,c⟩
     ·have:y=(k:Int):=oM;subst this;exact .inr ⟨rfl,c⟩
   ·rcases List.mem_append.1 j with j|j
    ·have:=u p j;omega
    ·obtain⟨g,_,rfl⟩:=List.mem_map.1 j;show (k:Int)<_;omega
theorem Qlv {R' F' T':Nat ->Int}{n':Nat}(h:Qeo R F T n)(h':Qeo R' F' T' n')(hS:∀r,Srt (L r))(hI:∀r x,In (L r) x↔(In (Lk R F T n r) x \/In (Lk R' F' T' n' r) x)):
  unF (flat R F T n) (flat R' F' T' n')=Qdt L 8:=by
 obtain⟨v,y⟩:=Qd7 (flat R' F' T' n') (flat R F T n) (Qbh n h) (Qbh n' h').2;obtain⟨q,u,_⟩:=QfB hS 8 zL;refine uniq v q (fun r x=> ?_);rw [y,u,QdT,QdT,hI];constructor
 ·intro j;have m:0<=r/\ r<8:=by
   rcases j with ⟨p,k,_⟩|⟨p,k,_⟩
   ·exact QcM n h r (Vk k)
   ·exact QcM n' h' r (Vk k)
  exact⟨m.1,m.2,j⟩
 ·exact fun j=>j.2.2
theorem Qe7 (l:List (Int×Int))(q:Int×Int)(z:Int):(Qak (l++[q])).set (l.length*2+1) (Ud z)=Qak (l++[(q.1,z)]):=by
 rw [Qa3,Qa3,List.set_append_right _ _ (by rw [Qbt];omega),Qbt,show l.length*2+1 - l.length*2=1 from by omega];rfl
theorem Qcp (B:Nat)(rv:Value)(l:List (Int×Int))(f t:Int)(w:Ur)(hB:B<=w.heap.size)(hl:l.length<=1000000)(ho:SR w B rv l)(hlo:∀q∈l,0<=q.2/\ q.2<=1000000000):
  Cl 237 #[rv,Uo #[Ud f,Ud t]] w fun e w'=>∃v,e=Ui v/\ SR w' B v (QgF l (f,t))/\ Gr w w' rv v:=by
 obtain⟨D,hi,N,X,C⟩:=info_parts Tryz.infoSpan;obtain⟨k,r⟩:=zE (w.alloc (Uj #[Ud f,Ud t] 226));have x0:k.cell? (Ub w.heap.size)=Uq (Ud f):=r▸oP;have i:k.cell? (Ua w.heap.size 1)=Uq (Ud t):=r▸oP;have Hc:Hid (k.heap.size=w.heap.size+1):=r▸hid oP;have L:Hid (B<=k.heap.size):=by have:=Hc.out;exact hid oM
 have o:Hid (SR k B rv l):=r▸World.ownsRow.alloc ho _;have Y:Hid (Gr w k rv rv):=r▸(Gr.refl _ _).alloc _;rcases Vh l with rfl|⟨y,q,rfl⟩
 ·have G:Hid (SR k.drew B rv []):=o.out;obtain⟨a,cap,rfl⟩:∃a cap,rv=Uf a 0 cap:=by
   rcases ho.2 with ⟨rfl,_⟩|⟨g,cap,Hd,rfl,_⟩
   ·exact⟨_,_,rfl⟩
   ·exact⟨_,_,rfl⟩
  ·clear ho;go_enter func237,ntmps237;go_wp2_with fail;try rw [r]
   clear r;refine zR (S:=fun w'=>w'.cell? (Ub w.heap.size)=Uq (Ud f)) x0 (fun qh=> ?_);refine tZ 0 9 ?_;refine tZ 1 10 ?_;refine tZ 2 11 ?_;refine uZ 3 12 ?_;refine uZ 4 13 ?_;refine uZ 5 14 ?_;refine uZ 6 15 ?_;refine uZ 7 16 ?_;refine uZ 8 17 ?_;refine uZ 9 18 ?_;refine uZ 10 19 ?_;refine uZ 11 20 ?_;refine tZ 12 21 ?_;refine zD ?_;clear qh;go_wp2_with (at_builtin;refine Qar rfl _ _ 182 rfl B 226 D _ 2 16 underlying182 hi N X C rfl oD _ _ _ rfl (World.ownsRow.alloc G _) (Ub k.heap.size) 1 1 [Ud f,Ud t] rfl rfl ?c1 ?c2 ?c3 ?c4 ?c5 ?_);case c1=>exact Qm8 _ _ _ _
   case c2=>intro u V;simp at V;rcases V with rfl|rfl<;>rfl
   case c3=>unfold maxLen;simp
   case c4=>simp
   case c5=>have:=L.out;simp;omega
   intro v' w1 U E O;have R:Hid (SR w1 B v' (QgF [] (f,t))):=(by rw [Qh6];exact U);have b:=hid ((Y.alloc _).drew.trans (Gr.app (b':=v') E (oU O)));clear U E O x0 i;go_wp2_with fail;go_ret;exact⟨v',rfl,R,b⟩
 ·simp only [Vi] at*;obtain⟨z,j⟩:=q;have hq:=hlo (z,j) oP;obtain⟨m,Q⟩:=zE y.length;have M:(y++[(z,j)]).length=m+1:=by simp [Q]
  rcases ho.2 with ⟨_,e0⟩|⟨g,cap,Hd,rfl,Hh,_,Hg,He,_,_⟩
  ·simp at e0
  have Ha:g≠w.heap.size:=fun e=>oH ((World.ownsRow.lt ho g rfl).2);have I:k.cell? (Ua g (m*2+1))=Uq (Ud j):=by
   rw [World.ownsRow.cellAt o.out _ (by rw [M];omega),Qa3,List.getElem?_append_right (by rw [Qbt];omega),Qbt,Q,show m*2+1 - m*2=1 from by omega];rfl
  have Hf:=World.ownsRow.frozenAt o (m*2+1);have Hb:=hid (fun(h:¬j+1<f)=>QiL (l:=y) (q:=(z,j)) (p:=(f,t)) h);have P:=hid (fun(h:j+1<f)=>Qh5 (l:=y) (q:=(z,j)) (p:=(f,t)) h);have J:=hid (Qe7 y (z,j) (max j t));have H:=hid (World.ownsRow.stored o (m*2+1) (Ud (max j t)));have G:Hid (k.drew.ownsRow B 226 2 (Uf (Uc g) (m+1) cap) (m+1) (Qak (y++[(z,j)]))):=by
   have:=o.out;unfold SR at this;rw [M] at this;exact this
  rw [Q] at J;rw [M] at Hg hl H Y ⊢;unfold maxLen at He;have W:=hid Q;have T:=hid M;clear ho hlo Q M o;have x2:IntKind.i64.wrap (j+1)=j+1:=Qat _ oM oM;have Hi:decide ((m:Int)<0)=false:=oP;have Hj:(m:Int)<(m:Int)+1:=oM;by_cases A:j+1<f
  ·have t1:decide (j+1<f)=true:=(by simp;exact A);have Z:=hid (P A);clear A;go_enter func237,ntmps237;go_wp2_with fail;try rw [r]
   clear r;refine zR (S:=fun w'=>w'.cell? (Ub w.heap.size)=Uq (Ud f)/\ w'.cell? (Ua g (m*2+1))=Uq (Ud j)) ⟨x0,I⟩ (fun qh=> ?_);refine tZ 0 9 ?_;refine tZ 1 10 ?_;refine tZ 2 11 ?_;refine tZ 3 12 ?_;refine tZ 4 13 ?_;refine tZ 5 14 ?_;refine tZ 6 15 ?_;refine tZ 7 16 ?_;refine tZ 8 17 ?_;refine tZ 9 18 ?_;refine tZ 10 19 ?_;refine tZ 11 20 ?_;refine tZ 12 21 ?_;refine zD ?_;clear qh;go_wp2_with (at_builtin;refine Qar rfl _ _ 182 rfl B 226 D _ 2 16 underlying182 hi N X C rfl oD _ _ _ rfl (World.ownsRow.alloc G _) (Ub k.heap.size) 1 1 [Ud f,Ud t] rfl rfl ?c1 ?c2 ?c3 ?c4 ?c5 ?_);case c1=>exact Qm8 _ _ _ _
   case c2=>intro u V;simp at V;rcases V with rfl|rfl<;>rfl
   case c3=>unfold maxLen;omega
   case c4=>omega
   case c5=>have:=L.out;simp;omega
   intro v' w1 U E O;have R:Hid (SR w1 B v' (QgF (y++[(z,j)]) (f,t))):=by
    rw [Z.out];unfold SR;rw [Qa3,UB,T.out];exact U
   have b:=hid ((Y.alloc _).drew.trans (Gr.app (b':=v') E (oU O)));clear U E O x0 i;go_wp2_with fail;go_ret;exact⟨v',rfl,R,b⟩
  ·have t1:decide (j+1<f)=false:=oS;have Z:=hid (Hb A);clear A;go_enter func237,ntmps237;go_wp2_with fail;try rw [r]
   clear r;refine zR (S:=fun w'=>w'.cell? (Ub w.heap.size)=Uq (Ud f)/\ w'.cell? (Ua g (m*2+1))=Uq (Ud j)) ⟨x0,I⟩ (fun qh=> ?_);refine tZ 0 9 ?_;refine tZ 1 10 ?_;refine tZ 2 11 ?_;refine tZ 3 12 ?_;refine tZ 4 13 ?_;refine tZ 5 14 ?_;refine tZ 6 15 ?_;refine tZ 7 16 ?_;refine tZ 8 17 ?_;refine tZ 9 18 ?_;refine tZ 10 19 ?_;refine tZ 11 20 ?_;refine tZ 12 21 ?_;refine zD ?_;clear qh;go_wp2_with fail;refine zR (S:=fun w'=>w'.cell? (Ua w.heap.size 1)=Uq (Ud t)) i (fun qh=> ?_);refine tZ 0 26 ?_;refine tZ 1 27 ?_;refine tZ 2 28 ?_;refine tZ 3 29 ?_;refine tZ 4 30 ?_;refine tZ 5 31 ?_;refine tZ 7 33 ?_;refine tZ 8 34 ?_;refine cZ 6 ?_;intro K s;go_simp;refine s.out _ _ i (fun qh=> ?_);clear s K;try simp only [zP]
   refine tZ 9 35 ?_;refine tZ 10 36 ?_;refine tZ 11 37 ?_;refine cZ 12 ?_;intro K s;go_simp;have F:(k.setCell (Ua g (m*2+1)) (Ud (max j t))).drew.drew.cell? (Ua w.heap.size 1)=Uq (Ud t):=by
    rw [<- i];exact US (zH _ _ _ _ (fun e=>Ha e.symm))
   refine s.out _ _ F (fun qh=> ?_);clear s K;try simp only [zP]
   refine zD ?_;clear qh;have R:Hid (SR (k.setCell (Ua g (m*2+1)) (Ud (max j t))) B (Uf (Uc g) (m+1) cap) (QgF (y++[(z,j)]) (f,t))):=by
    rw [Z.out];unfold SR;show World.ownsRow _ _ _ _ _ (y++[(z,max j t)]).length _;rw [<- J.out,show (y++[(z,max j t)]).length=m+1 from by simp [W.out]];exact H.1
   have b:Hid (Gr w (k.setCell (Ua g (m*2+1)) (Ud (max j t))).drew.drew (Uf (Uc g) (m+1) cap) (Uf (Uc g) (m+1) cap)):=
    ((Y.trans ⟨Qa6 k (Ua g (m*2+1)) (Ud (max j t)),.inl rfl⟩).drew).drew
   clear x0 i F I Hf H;go_wp2_with fail;go_ret;exact⟨_,rfl,R,b⟩
def Sfx (w:Ur)(l:List (Int×Int))(i k:Nat)(x:Option Us):Prop:=
 i+k=l.length/\ (k=0 \/∃g o,x=Uq (Ua g o)/\ g<w.heap.size/\∀j,j<k ->w.cell? (Ua g (o+j*2))=Uq (Ud (sF l (i+j)))/\ w.cell? (Ua g (o+j*2+1))=Uq (Ud (sT l (i+j))))
theorem Sfx.start(h:SS w a l.length (sF l) (sT l)):Sfx w l 0 l.length a:=by
 refine⟨oM,?_⟩;rcases h with h|⟨b,off,rfl,k,m⟩
 ·exact .inl h
 ·exact .inr ⟨b,off,rfl,k,fun j hj=>by rw [Nat.zero_add];exact m j hj⟩
theorem Sfx.next{o:Nat}(h:Sfx w l i (k+1) (Uq (Ua g o))):Sfx w l (i+1) k (Uq (Ua g (o+2))):=by
 obtain⟨v,m⟩:=h;refine⟨oM,?_⟩;rcases m with m|⟨u,y,e,r,q⟩
 ·omega
 ·injection e with e;injection e with e1 e2;subst e1 e2;refine .inr ⟨g,o+2,rfl,r,fun j hj=> ?_⟩;have:=q (j+1) oM;rw [show o+(j+1)*2=o+2+j*2 from by omega,show i+(j+1)=i+1+j from by omega] at this;exact this
theorem Sfx.bw{x:Option Us}(h:Sfx w l i k x)(hb:Bl w w1):Sfx w1 l i k x:=by
 obtain⟨r,u⟩:=h;refine⟨r,u.imp id ?_⟩;rintro⟨g,o,e,m,q⟩;exact⟨g,o,e,Ut m hb.size,fun j hj=>⟨(hb.cell (p:=(Ua g _)) m).trans (q j hj).1,(hb.cell (p:=(Ua g _)) m).trans (q j hj).2⟩⟩
theorem Sfx.block{x:Option Us}(h:Sfx w l i k x)(hk:0<k):∃g o,x=Uq (Ua g o)/\ g<w.heap.size/\ w.cell? (Ua g o)=Uq (Ud (sF l i))/\ w.cell? (Ua g (o+1))=Uq (Ud (sT l i)):=by
 rcases h.2 with h|⟨g,o,e,m,j⟩
 ·omega
 ·have:=j 0 hk;simp at this;exact⟨g,o,e,m,this⟩
theorem SR.bw(h:SR w B v l)(hb:Below B w0 w)(hB:B<=w.heap.size)(hg:Gr w w1 v v1):Below B w0 w1:=
 hb.trans (hg.bw hB (fun k hk=>(World.ownsRow.lt h k hk).1))
def lenOf:Value ->Nat
 | Uf _ n _=>n
 | _=>0
theorem Qi3 (a:Option Us)(ca:Nat)(b:Option Us)(cb:Nat)(la lb:List (Int×Int))(w:Ur)(A:SS w a la.length (sF la) (sT la))(y:SS w b lb.length (sF lb) (sT lb))
  (hca:la.length<=ca) (hca':ca<=9223372036854775807) (hcb:lb.length<=cb) (hcb':cb<=9223372036854775807) (ha:Srt la) (hb:Srt lb) (hna:la.length<=2000) (hnb:lb.length<=2000):
  Cl 220 #[Uf a la.length ca,Uf b lb.length cb] w fun e w'=>∃v l,e=Ui v/\ SR w' w.heap.size v l/\ Bl w w'/\ Srt l/\ (∀x,In l x↔(In la x \/In lb x))/\ l.length<=la.length+lb.length:=by
 obtain⟨i0,hi,Gt,Gu,Gv⟩:=info_parts Tryz.infoSpan;have H9:=hid (Sfx.start A);have Ga:=hid (Sfx.start y);have Hu:=hid ha;have Hv:=hid hb;have Hr:Hid (∀m,Srt m ->∀q∈m,0<=q.2/\ q.2<=1000000000):=fun m hm q hq=>oH (hm.2 q hq);clear A y ha hb;obtain⟨na,Hc⟩:=zE la.length;obtain⟨nb,Hd⟩:=zE lb.length;rw [Hc] at H9 hca hna;rw [Hd] at Ga hcb hnb;rw [Hc,Hd];have Hs:=hid Hc;have Ht:=hid Hd;clear Hc Hd;obtain⟨cc,Gb⟩:=zE (na+nb:Nat);have hw:IntKind.i64.wrap ((na:Int)+(nb:Int))=(cc:Int):=Gb▸Qat _ oM oM;have Go:=run_makeSlice_owned (P:=prog) w w.heap.size 182 226 i0 _ 2 underlying182 hi Gt Gu Uh Uh cc oM (by rw [Gv];omega) oL zL;obtain⟨w1,H4,Hm,Hn⟩:=Go;have Gg:Hid (Bl w w1):=zI.grown Hn zL (fun _ h=>by cases h);have Gl:Hid (SR w1 w.heap.size (Uf (Uc w.heap.size) 0 cc) []):=Hm;clear Hm Hn;have G2:cc<=4000:=oM;clear Gb;go_enter func220,ntmps220;go_wp2_with fail;go_loopw [0,1,5] (fun u0 u1 u5 wr=>∃(i u Hi:Nat) (xa:Option Us) (j z Hj:Nat) (xb:Option Us) (m:List (Int×Int)),u0=Uf xa u Hi/\ u1=Uf xb z Hj/\ u<=Hi/\ Hi<=9223372036854775807/\ z<=Hj/\ Hj<=9223372036854775807/\ u<=2000/\ z<=2000/\ Hid (Sfx w la i u xa)/\ Hid (Sfx w lb j z xb)/\ Hid (Qga la lb m i j)/\ Hid (SR wr w.heap.size u5 m)/\ Hid (Bl w wr))
  (fun u0 u1 _ _=>lenOf u0+lenOf u1)
 case atStart=>exact⟨0,na,ca,a,0,nb,cb,b,[],rfl,rfl,hca,hca',hcb,hcb',hna,hnb,H9,Ga,hid (Qga.start la lb),Gl,Gg⟩
 case round=>
  clear H4;obtain⟨i,u,Hi,xa,j,z,Hj,xb,m,rfl,rfl,Gw,Gx,Gz,G0,Gy,G1,A,y,F,W,C⟩:=hrel;have H5:m.length<=1000000:=by
   have h1:=F.len;have h2:=A.1;have h3:=y.1;have:=Hs.out;have:=Ht.out;omega
  have Hq:=C.size;by_cases Hf:0<u/\ 0<z
  ·obtain⟨Gq,Gs⟩:=Hf;obtain⟨E,J,rfl,Gm,Hg,Hw⟩:=(A.bw C).block Gq;obtain⟨M,L,rfl,Gn,Hh,Hx⟩:=(y.bw C).block Gs;obtain⟨ka,rfl⟩:∃ka,u=ka+1:=⟨u - 1,oM⟩;obtain⟨kb,rfl⟩:∃kb,z=kb+1:=⟨z - 1,oM⟩;obtain⟨Hz,rfl⟩:∃k,Hi=k+1:=⟨Hi - 1,oM⟩;obtain⟨H0,rfl⟩:∃k,Hj=k+1:=⟨Hj - 1,oM⟩;have Gh:Hid (E<w.heap.size):=by
    rcases A.2 with h|⟨g,o,e,hg,_⟩
    ·omega
    ·injection e with e;injection e with e1 e2;subst e1;exact hid hg
   have Gi:Hid (M<w.heap.size):=by
    rcases y.2 with h|⟨g,o,e,hg,_⟩
    ·omega
    ·injection e with e;injection e with e1 e2;subst e1;exact hid hg
   have H8:Hid (SR wr.drew.drew w.heap.size u5 m):=W.out;have Gj:Hid (i<la.length):=(by have:=A.1;exact hid oM);have Gk:Hid (j<lb.length):=(by have:=y.1;exact hid oM);have Ho:Uq E≠u5.ownBlock:=fun e=>oJ ((World.ownsRow.lt W E e.symm).1) Gh;have Hp:Uq M≠u5.ownBlock:=fun e=>oJ ((World.ownsRow.lt W M e.symm).1) Gi;clear Gm Gn;by_cases Hy:sF la i<=sF lb j
   ·have t1:decide (sF la i<=sF lb j)=true:=(by simp;exact Hy);obtain⟨Ge,Gc⟩:=zE ((if Hz=0 then Uq ((Ua E J):Us) else Uq (Ua E (J+2))));have Gp:(1:Int)<=(ka:Int)+1:=oM;have H1:Hid (Sfx w la (i+1) ka Ge):=by
     by_cases h0:Hz=0
     ·exact hid ⟨oH A.1,.inl oM⟩
     ·rw [if_neg h0] at Gc;subst Gc;exact hid A.next
    have X:=hid (F.stepA Hu Hv Gj (fun _=>Hy));clear Hy;go_wp2_with fail;refine zR (S:=fun w'=>w'.cell? (Ua E J)=Uq (Ud (sF la i))/\ w'.cell? (Ua M L)=Uq (Ud (sF lb j))) ⟨Hg,Hh⟩ (fun qh=> ?_);refine tZ 0 24 ?_;refine tZ 1 25 ?_;refine tZ 2 26 ?_;refine tZ 3 27 ?_;refine tZ 4 28 ?_;refine tZ 5 29 ?_;refine tZ 6 30 ?_;refine tZ 7 31 ?_;refine tZ 8 32 ?_;refine zD ?_;clear qh;go_wp2_with fail;refine zR (S:=fun w'=>w'.cell? (Ua E J)=Uq (Ud (sF la i))/\ w'.cell? (Ua E (J+1))=Uq (Ud (sT la i))) ⟨Hg,Hw⟩ (fun qh=> ?_);refine tZ 0 33 ?_;refine tZ 1 34 ?_;refine tZ 2 35 ?_;refine tZ 3 36 ?_;refine tZ 5 38 ?_;refine tZ 6 39 ?_;refine cZ 4 ?_;intro K hK;go_simp;refine(Qcp w.heap.size _ m (sF la i) (sT la i) wr.drew.drew Hq H5 H8 (Hr m F.s)).mono ?_;rintro e H ⟨v2,rfl,U,O⟩;have Y:Gr wr H u5 v2:=((Gr.refl wr u5).drew.drew).trans O;have N:=hid (W.bw C Hq Y);have B:=hid U;have d0:H.cell? (Ua E J)=Uq (Ud (sF la i)):=Y.g.cell Hg Ho;have d1:H.cell? (Ua E (J+1))=Uq (Ud (sT la i)):=Y.g.cell Hw Ho;clear U O Y;refine hK.out _ _ ⟨d0,d1⟩ (fun qh=> ?_);clear hK K;try simp only [zP]
    refine tZ 7 5 ?_;refine tZ 8 0 ?_;refine zD ?_;clear qh d0 d1 Hg Hw Hh Hx;go_wp2_with fail;go_roundw;case rel=>exact⟨i+1,ka,Hz,Ge,j,kb+1,H0+1,_,_,rfl,rfl,oM,oM,oM,oM,oM,oM,H1,y,X,B,N⟩
    case measure=>simp [lenOf]
   ·have t1:decide (sF la i<=sF lb j)=false:=oS;obtain⟨Gf,Gd⟩:=zE ((if H0=0 then Uq ((Ua M L):Us) else Uq (Ua M (L+2))));have Gp:(1:Int)<=(kb:Int)+1:=oM;have H1:Hid (Sfx w lb (j+1) kb Gf):=by
     by_cases h0:H0=0
     ·exact hid ⟨oH y.1,.inl oM⟩
     ·rw [if_neg h0] at Gd;subst Gd;exact hid y.next
    have X:=hid (F.stepB Hu Hv Gk (fun _=>by show sF lb j<=sF la i;omega));clear Hy;go_wp2_with fail;refine zR (S:=fun w'=>w'.cell? (Ua E J)=Uq (Ud (sF la i))/\ w'.cell? (Ua M L)=Uq (Ud (sF lb j))) ⟨Hg,Hh⟩ (fun qh=> ?_);refine tZ 0 24 ?_;refine tZ 1 25 ?_;refine tZ 2 26 ?_;refine tZ 3 27 ?_;refine tZ 4 28 ?_;refine tZ 5 29 ?_;refine tZ 6 30 ?_;refine tZ 7 31 ?_;refine tZ 8 32 ?_;refine zD ?_;clear qh;go_wp2_with fail;refine zR (S:=fun w'=>w'.cell? (Ua M L)=Uq (Ud (sF lb j))/\ w'.cell? (Ua M (L+1))=Uq (Ud (sT lb j))) ⟨Hh,Hx⟩ (fun qh=> ?_);refine tZ 0 40 ?_;refine tZ 1 41 ?_;refine tZ 2 42 ?_;refine tZ 3 43 ?_;refine tZ 5 45 ?_;refine tZ 6 46 ?_;refine cZ 4 ?_;intro K hK;go_simp;refine(Qcp w.heap.size _ m (sF lb j) (sT lb j) wr.drew.drew Hq H5 H8 (Hr m F.s)).mono ?_;rintro e H ⟨v2,rfl,U,O⟩;have Y:Gr wr H u5 v2:=((Gr.refl wr u5).drew.drew).trans O;have N:=hid (W.bw C Hq Y);have B:=hid U;have d0:H.cell? (Ua M L)=Uq (Ud (sF lb j)):=Y.g.cell Hh Hp;have d1:H.cell? (Ua M (L+1))=Uq (Ud (sT lb j)):=Y.g.cell Hx Hp;clear U O Y;refine hK.out _ _ ⟨d0,d1⟩ (fun qh=> ?_);clear hK K;try simp only [zP]
    refine tZ 7 5 ?_;refine tZ 8 1 ?_;refine zD ?_;clear qh d0 d1 Hg Hw Hh Hx;go_wp2_with fail;go_roundw;case rel=>exact⟨i,ka+1,Hz+1,_,j+1,kb,H0,Gf,_,rfl,rfl,oM,oM,oM,oM,oM,oM,A,H1,X,B,N⟩
    case measure=>simp [lenOf]
  ·have H6:Hid (u=0 \/z=0):=hid oM;clear Hf;rcases VL u with Hl|Hl;case' inl=>
    have e1:decide (0<u)=false:=(by simp;exact Hl);clear Hl;go_wp2_with fail
   case' inr=>
    have e1:decide (0<u)=true:=(by simp;exact Hl);have e2:decide (0<z)=false:=(by simp;have:=H6.out;omega);clear Hl;go_wp2_with fail
   all_goals (
    go_loopw [5,49] (fun v5 iv wr2=>∃(k:Nat) (r:List (Int×Int)),k<=u/\ iv=Ud k/\ Hid (Qga la lb r (i+k) j)/\ Hid (SR wr2 w.heap.size v5 r)/\ Hid (Bl w wr2)) (fun _ iv _=>u - (intOf iv).toNat);case atStart=>exact⟨0,m,Ux _,rfl,F,W,C⟩
    case round=>
     clear F W C Hq H5;obtain⟨k,r,hk,rfl,Q,I,V⟩:=hrel;have Hb:r.length<=1000000:=by
      have h1:=Q.len;have:=Hs.out;have:=Ht.out;omega
     have He:=V.size;by_cases D:k<u
     ·have Ha:∃g o,xa=Uq (Ua g o)/\ wr.cell? (Ua g (o+k*2))=Uq (Ud (sF la (i+k)))/\ wr.cell? (Ua g (o+k*2+1))=Uq (Ud (sT la (i+k))):=by
       rcases (A.bw V.out).2 with h|⟨g,o,e,hg,hc⟩
       ·omega
       ·exact⟨g,o,e,hc k D⟩
      obtain⟨g,o,rfl,c0,c1⟩:=Ha;have X:=hid (Q.stepA Hu Hv (oH A.1) (fun hj=>oJ y.1 H6));obtain⟨Z,R⟩:=zE (sF la (i+k));obtain⟨G,T⟩:=zE (sT la (i+k));have HQ:Hid (la.getD (i+k) (0,0)=(Z,G)):=(by rw [<- R,<- T];exact rfl);rw [R] at c0;rw [T] at c1;clear R T;obtain⟨t,p⟩:=zE (wr.alloc (Uj #[Ud Z,Ud G] 226));have r0:t.cell? (Ub wr.heap.size)=Uq (Ud Z):=p▸oP;have r1:t.cell? (Ua wr.heap.size 1)=Uq (Ud G):=p▸oP;have H2:Hid (SR t w.heap.size u5 r):=p▸World.ownsRow.alloc I _;have Hk:Hid (Gr wr t u5 u5):=p▸(Gr.refl _ _).alloc _;have H3:Hid (w.heap.size<=t.heap.size):=(by have:=Hk.g.size;exact hid oM);go_wp2_with fail;try rw [p]
      refine(Qcp w.heap.size u5 r Z G t H3 Hb H2 (Hr r Q.s)).mono ?_;rintro e H ⟨v2,rfl,U,O⟩;have N:=hid (I.bw V He (Hk.trans O));have B:=hid U;clear U O p c0 c1 r0 r1;go_wp2_with fail;go_roundw;case rel=>exact⟨k+1,_,D,oN,by have:=X;rw [HQ.out] at this;exact this,B,N⟩
      case measure=>exact oE
     ·obtain rfl:k=u:=oM;have H7:Hid (Qga la lb r la.length j):=by
       have h1:=A.1;have h2:=Q.out;rw [h1] at h2;exact hid h2
      clear D Q;go_wp2_with fail;go_loopw [5,59] (fun v5 iv wr2=>∃(k:Nat) (r:List (Int×Int)),k<=z/\ iv=Ud k/\ Hid (Qga la lb r la.length (j+k))/\ Hid (SR wr2 w.heap.size v5 r)/\ Hid (Bl w wr2)) (fun _ iv _=>z - (intOf iv).toNat);case atStart=>exact⟨0,r,Ux _,rfl,H7,I,V⟩
      case round=>
       clear H7 I V He Hb hk;obtain⟨k,r,hk,rfl,Q,I,V⟩:=hrel;have Hb:r.length<=1000000:=by
        have h1:=Q.len;have:=Hs.out;have:=Ht.out;omega
       have He:=V.size;by_cases D:k<z
       ·have Ha:∃g o,xb=Uq (Ua g o)/\ wr.cell? (Ua g (o+k*2))=Uq (Ud (sF lb (j+k)))/\ wr.cell? (Ua g (o+k*2+1))=Uq (Ud (sT lb (j+k))):=by
         rcases (y.bw V.out).2 with h|⟨g,o,e,hg,hc⟩
         ·omega
         ·exact⟨g,o,e,hc k D⟩
        obtain⟨g,o,rfl,c0,c1⟩:=Ha;have X:=hid (Q.stepB Hu Hv (oH y.1) (fun hj=>oM));obtain⟨Z,R⟩:=zE (sF lb (j+k));obtain⟨G,T⟩:=zE (sT lb (j+k));have HQ:Hid (lb.getD (j+k) (0,0)=(Z,G)):=(by rw [<- R,<- T];exact rfl);rw [R] at c0;rw [T] at c1;clear R T;obtain⟨t,p⟩:=zE (wr.alloc (Uj #[Ud Z,Ud G] 226));have r0:t.cell? (Ub wr.heap.size)=Uq (Ud Z):=p▸oP;have r1:t.cell? (Ua wr.heap.size 1)=Uq (Ud G):=p▸oP;have H2:Hid (SR t w.heap.size u5 r):=p▸World.ownsRow.alloc I _;have Hk:Hid (Gr wr t u5 u5):=p▸(Gr.refl _ _).alloc _;have H3:Hid (w.heap.size<=t.heap.size):=(by have:=Hk.g.size;exact hid oM);go_wp2_with fail;try rw [p]
        refine(Qcp w.heap.size u5 r Z G t H3 Hb H2 (Hr r Q.s)).mono ?_;rintro e H ⟨v2,rfl,U,O⟩;have N:=hid (I.bw V He (Hk.trans O));have B:=hid U;clear U O p c0 c1 r0 r1;go_wp2_with fail;go_roundw;case rel=>exact⟨k+1,_,D,oN,by have:=X;rw [HQ.out] at this;exact this,B,N⟩
        case measure=>exact oE
       ·obtain rfl:k=z:=oM;have HD:Hid (Srt r/\ (∀x,In r x↔(In la x \/In lb x))/\ r.length<=la.length+lb.length):=by
         have h1:=y.1;have h2:=Q.out;rw [h1] at h2;exact hid h2.done
        clear Q D;go_wp2_with fail;go_ret;refine⟨_,r,rfl,I,V,HD.1,HD.2.1,?_⟩;have:=HD.2.2;have:=Hs.out;have:=Ht.out;omega)
theorem Qb5(w:Ur){ops:Array Oper}{rest:List Oper}{o:Oper}{a:Act}{Q:Exit ->Act ->Ur ->Prop}(hg:o.guard=Up)(it:Operand)(hop:o.op=Op.next it false)(k:TypeId)(K:Keyed P k)(hk:P.underlying k=Uq (.int Uh))
  (b r n:Nat) (D:DataW Value) (left:Lit ->Bool) (cnt:Nat) (hit:a.eval it=Uk (Uc r)) (h:w.ranges P k Qc5 b r n D left cnt)
  (hDone:(∀kl,left kl=false) ->wpList P ops Q rest (a.put o.dst (Ul #[Un false])) w)
  (hMore:∀(x:Int) (va:Option Us) (vn vc:Nat) (w':Ur) (cnt':Nat),(Lit.int Uh x).wf=true ->left (kI x)=true ->(∀zd,D.atKey (kI x) zd=.held (Uf va vn vc)) ->w'.ranges P k Qc5 b r n D (fun z=>left z && !z.sameKey (kI x)) cnt' ->cnt'<cnt ->
   w.grownBy w' (Uq r) ->w'.heap.size=w.heap.size ->(Instr.entry (Uk (Uc r))).run P w'=.ok (Ul #[Ud x,Uf va vn vc]) w' ->wpList P ops Q rest (a.put o.dst (Ul #[Un true,Ud x,Uf va vn vc])) w'):
  wpList P ops Q (o::rest) a w:=
 wpList_next_ranges w hg it hop k K Qc5 (Value.int Uh) (fun p:Option Us×Nat×Nat=> Uf p.1 p.2.1 p.2.2) (fun key kl hkey=>by obtain⟨x,rfl,_⟩:=Maps.keyOf_int_inv hk hkey;exact⟨x,rfl⟩) (fun v y hv=>by obtain⟨_,a,n,c,rfl⟩:=QdE (d:=y.1) (ps:=y.2) hv;exact⟨(a,n,c),rfl⟩)
  b r n D left cnt hit h (fun _ hl=>hDone hl) (fun x p kl y w' cnt' hkey hlk hv hat hrg hlt hgr hsz hen=>by
   obtain⟨x',j,rfl,q⟩:=Maps.keyOf_int_inv hk hkey;cases j;have m:=(QdE (d:=y.1) (ps:=y.2) hv).1;exact hMore x p.1 p.2.1 p.2.2 w' cnt' q hlk (fun zd=>m▸hat zd) hrg hlt hgr hsz hen)
theorem QbG (x y:Int):(kI x).sameKey (kI y)=decide (x=y):=by
 rw [Bool.eq_iff_iff,WideAt.sameKey_iff (show WideAt.IsKeyLit (kI y) from trivial),decide_eq_true_iff];constructor
 ·intro h;unfold kI at h;injection h
 ·intro h;rw [h]
theorem QpG (bd bs nd ns:Nat)(Dd Ds:DataW Value)(w:Ur)(hd:w.ownsMap prog 3 Qc5 bd nd Dd)(hs:w.ownsMap prog 3 Qc5 bs ns Ds)(hne:bd≠bs)(hroom:nd+Maps.size Ds<=maxLen):
  Cl 219 #[.map (Uq bd),.map (Uq bs)] w fun e w'=>e=Ui (Ul #[])/\ (∃D,w'.ownsMap prog 3 Qc5 bd (nd+Maps.size Ds) D/\ Merged D Dd Ds (fun _=>false))/\ w.grownBy w' (Uq bd):=by
 have G:=hd.lt;have I:=hs.lt;go_enter func219,ntmps219;go_wp2_with (at_range;refine wpList_range_own _ rfl _ 126 rfl 3 182 (int_keyed underlying3) underlying126 Qc5 bs ns Ds rfl hs ?_;intro B O h N);go_frame;go_loopw [8] (fun _ wr=>∃(r:Lit ->Bool) (m:Nat) (k:DataW Value),wr.ranges prog 3 Qc5 bs w.heap.size ns Ds r m/\ m<=Maps.size Ds/\
   wr.ownsMap prog 3 Qc5 bd (nd+(Maps.size Ds - m)) k/\ Merged k Dd Ds r/\ w.grownBy wr (Uq bd))
  (fun _ wr=>wr.rangeLeft bs w.heap.size)
 case atStart=>
  exact⟨_,_,Dd,O,Uv _,(hd.kept h oP).mono oM,merged_start Dd Ds,h.but _⟩
 case round=>
  obtain⟨r,m,k,y,J,q,u,v⟩:=hrel;go_wp2_with (at_next;refine Qb5 _ rfl _ rfl 3 (int_keyed underlying3) underlying3 bs w.heap.size ns _ _ _ rfl y ?_ ?_)
  ·intro s;have z:Merged k Dd Ds (fun _=>false):=by
    have e:r=fun _=>false:=funext s;rw [<- e];exact u
   have H:=hid (And.intro q (And.intro z v));clear u z v q y;go_wp2;go_end0;exact⟨rfl,⟨k,H.1.mono oM,H.2.1⟩,H.2.2⟩
  ·intro x V Z Y w1 i U L b Q A g X K;have E:=q.kept g (fun e=>oH (Option.some.inj e));have p:keyOf prog 3 (Ud x)=Uq (kI x):=keyOf_int_mk underlying3 U;go_wp2_with (at_mapUpdate;refine wpList_mapUpdate_own _ rfl _ _ _ 126 rfl 3 182 (int_keyed underlying3) underlying126 Qc5 bd _ _ rfl E oM _ _ _ rfl rfl p (.held (Uf V Z Y)) [] rfl ?_;intro C M t;go_frame);have o:=Q.kept t (fun e=>hne (Option.some.inj e).symm) (fun e=>oH (Option.some.inj e));go_roundw;case rel=>
    exact⟨_,i,_,o,oM,M.mono oM,merged_step u q.isMap (show WideAt.IsKeyLit (kI x) from trivial) b,(v.andThen g (fun j hj=> .inl (by cases hj;exact Uv _))).andThen t (fun j hj=> .inr hj)⟩
   case measure=>rw [o.left_eq,y.left_eq];exact A
theorem Qlg{r:Nat}{e:TypeId}{s:Nat}{m:Nat}{xs:List Value}{D:DataW Value}{left:Lit ->Bool}(h:w.ownsRow B e s v m xs)(hm:w.ranges prog 3 Qc5 b r n D left c):v.ownBlock=Up \/v.ownBlock≠Uq r:=by
 obtain⟨_,k⟩:=h;rcases k with ⟨rfl,_⟩|⟨g,cap,z,rfl,_,j,_⟩
 ·exact .inl rfl
 ·refine .inr (fun e=> ?_);obtain⟨t,y,i,o,u,_,_,_,_,q,_⟩:=hm;have e:g=r:=by simpa [Value.ownBlock] using e
  rw [e,q] at j;cases j
theorem Qmo(h:In l x):l≠[]:=fun e=>by rw [e] at h;exact QiD h
theorem Srt.inh(h:Srt l)(hne:l≠[]):∃x,In l x:=by
 cases l with
 | nil=>exact absurd rfl hne
 | cons p t=>exact⟨p.1,p,Vc,VC _,(h.2 p Vc).2.1⟩
structure Qp3 (La Lb L:Int ->List (Int×Int))(left:Int ->Bool):Prop where
 s:∀r,Srt (L r)
 done:∀r,left r=false ->∀x,In (L r) x↔(In (La r) x \/In (Lb r) x)
 todo:∀r,left r=true ->L r=La r
 len:∀r,(L r).length<=(La r).length+(Lb r).length
theorem Qn5{ba na bb nb:Nat}{Da Db:DataW Value}{Ga Gb:Int ->Value}{La Lb:Int ->List (Int×Int)}(ha:QaH w ba na Da Ga La)(hb:QaH w bb nb Db Gb Lb)
  (hsa:∀r,Srt (La r)) (hsb:∀r,Srt (Lb r)) (hla:∀r,(La r).length<=2000) (hlb:∀r,(Lb r).length<=2000) (hza:Maps.size Da<=2000) (hzb:Maps.size Db<=2000):
  Cl 191 #[.map (Uq ba),.map (Uq bb)] w fun e w'=>∃bd n D G L,e=Ui (.map (Uq bd))/\ n<=4000/\ QcK w' bd n D G L/\ Qp3 La Lb L (fun _=>false)/\ Bl w w':=by
 have Gp:=ha.own.lt;have Gq:=hb.own.lt;have o:=hid ha;have M:=hid hb;have Hv:=hid hsa;have Hw:=hid hsb;have Ge:=hid hla;have Gf:=hid hlb;have Gk:=@run_makeMap prog;clear ha hb hsa hsb hla hlb;obtain⟨Z,O⟩:=zE (w.alloc (.map #[] 0));have E:Hid (Bl w Z):=O▸hid (zO _ _);have Ht:Hid (Z.ownsMap prog 3 Qc5 w.heap.size 0 (.map [])):=O▸hid (World.ownsMap_made w _ _ _);have Hz:Hid (Z.heap.size=w.heap.size+1):=O▸hid oP;go_enter func191,ntmps191;go_wp2_with fail;try rw [O]
 refine(QpG w.heap.size ba 0 na (.map []) Da Z Ht (o.bw E).own oM oL).mono ?_;rintro e V ⟨rfl,⟨X,H0,C⟩,R⟩;have B2:Bl w V:=E.grown R (oH Hz) (fun k hk=>oI hk);have Hc:=(M.bw B2).own;have z2:w.heap.size<V.heap.size:=oJ R.size Hz;have Hx:Hid (Qp3 La Lb La (fun r=>Maps.has Db (kI r))):=by
  refine hid ⟨Hv,fun r q x=> ?_,fun _ _=>rfl,fun r=>oM⟩;have q:Maps.has Db (kI r)=false:=q;rw [M.has' r] at q;have:Lb r=[]:=oU q;rw [this];simp [In]
 have Hp:Hid (∀r,X.atKey (kI r) (.held Ue)=.held (Ga r)):=by
  refine hid (fun r=> ?_);rw [C.2,<- o.at' r];cases e:Maps.has Da (kI r) with
  | true=>rfl
  | false=>
   rw [atKey_of_not_has e];rfl
 have Hs:Hid (∀r,Maps.has X (kI r)= !(La r).isEmpty):=by
  refine hid (fun r=> ?_);rw [C.1,o.has' r];have:Maps.has (.map []:DataW Value) (kI r)=false:=rfl;rw [this];simp
 have Hr:=hid H0;have B:=hid B2;clear H0 C R Ht O Gk;go_wp2_with (at_range;refine wpList_range_own _ rfl _ 126 rfl 3 182 (int_keyed underlying3) underlying126 Qc5 bb nb Db rfl Hc ?_;intro w0 Hd I Gm);go_frame;have b0:Bl w w0:=B.grown I oM (fun _ h=>by cases h);go_loopw [6] (fun _ wr=>∃(N:Lit ->Bool) (b:Nat) (A:DataW Value) (u:Int ->Value) (j:Int ->List (Int×Int)),wr.ranges prog 3 Qc5 bb V.heap.size nb Db N b/\ b<=Maps.size Db/\ Hid (QcK wr w.heap.size (Maps.size Da+(Maps.size Db - b)) A u j)/\ Hid (Qp3 La Lb j (fun r=>N (kI r)))/\ Hid (Bl w wr))
  (fun _ wr=>wr.rangeLeft bb V.heap.size)
 case atStart=>
  refine⟨_,_,X,Ga,La,Hd,Uv _,hid ⟨(Hr.kept I oP).mono oM,Hp,Hs,fun r=>QdF (((o.bw B).rows r).kept I ?_)⟩,Hx,hid b0⟩;cases e:(Ga r).ownBlock with
  | none=>exact .inl rfl
  | some g=>exact .inr oP
 case round=>
  clear Hd I Gm b0 Hc Hx Hp Hs Hr B;obtain⟨N,b,A,u,j,Q,Gr,p,U,P⟩:=hrel;go_wp2_with (at_next;refine Qb5 _ rfl _ rfl 3 (int_keyed underlying3) underlying3 bb V.heap.size nb _ _ _ rfl Q ?_ ?_)
  ·intro H2;have HU:Hid (Qp3 La Lb j (fun _=>false)):=by
    have e:(fun r=>N (kI r))=fun _=>false:=funext fun r=>H2 (kI r);have:=U.out;rw [e] at this;exact hid this
   clear H2 Q;go_wp2_with fail;go_ret;exact⟨w.heap.size,_,A,u,j,rfl,oM,p,HU,P⟩
  ·intro x va vn vc w1 Hi H9 H5 F He Gi J Gn Gs;have hG:Gb x=Uf va vn vc:=by
    have z:=M.at' x;rw [F] at z;injection z with z;exact z.symm
   have H1:Lb x≠[]:=by
    have z:=has_true_of_atKey F;rw [M.has' x] at z;intro e;rw [e] at z;cases z
   have t:Bl w w1:=P.grown J P.size (fun k hk=>oI hk);have H7:=(M.bw t).rows x;have H6:=(o.bw t).rows x;have H4:=(o.bw t).look x H9;obtain⟨xb,cb,H,Gd,Hl,Hm⟩:=Qdd H7;obtain⟨xa,ca,e2,Gc,Hj,Hk⟩:=Qdd H6;rw [hG] at H;injection H with H e3 e4;subst H e3 e4;rw [e2] at H4;have g1:QcK w1 w.heap.size (Maps.size Da+(Maps.size Db - b)) A u j:=⟨p.own.kept J (fun e=>oI e),p.at',p.has',fun r=>(p.rows r).kept J (Qlg (p.rows r) Q)⟩;have HC:=hid (Qi3 xa ca va vc (La x) (Lb x) w1 Gc Gd Hj Hk Hl Hm (Hv x) (Hw x) (Ge x) (Gf x));have i:=hid g1;have E:=hid t;have Ha:=hid He;have Gg:=hid Q.left_eq;have Go:=hid H5;have Gh:=hid H1;have Gt:=t.size;clear Q hG F H5 J Gn H7 H6 e2 Gc Gd g1 t He H1;go_wp2_with fail;refine HC.mono ?_;rintro e W ⟨v,l,rfl,T,m,H8,Hb,H3⟩;have Hf:=Ha.kept (row:=Up) ⟨m.os,m.tape,m.output,m.size,fun k hk _=>m.block k hk⟩ oP oP;have Hn:keyOf prog 3 (Ud x)=Uq (kI x):=keyOf_int_mk underlying3 H9;have Gl:Qc5 v=Uq (.held v,[]):=QfG T;have S:W.ownsMap prog 3 Qc5 w.heap.size (Maps.size Da+(Maps.size Db - b)) A:=i.own.kept (row:=Up) ⟨m.os,m.tape,m.output,m.size,fun k hk _=>m.block k hk⟩ oP;have Hu:Hid (∀r,W.ownsRow 0 226 2 (u r) (j r).length (Qak (j r))):=hid fun r=>Qdc (i.rows r) m;have Hy:Hid (W.ownsRow 0 226 2 v l.length (Qak l)):=hid (QdF T);have Hq:=hid (Qaa E m);have Y:=hid (And.intro H8 (And.intro Hb H3));have Hh:=hid Hf;clear T m H8 Hb H3 Hf E HC H4 Ha;go_wp2_with (at_mapUpdate;refine wpList_mapUpdate_own _ rfl _ _ _ 126 rfl 3 182 (int_keyed underlying3) underlying126 Qc5 w.heap.size _ _ rfl S oL _ _ _ rfl rfl Hn (.held v) [] Gl ?_;intro w4 Gj K;go_frame);have Hg:=Hh.kept K (fun e=>oI e) (fun e=>oI e);have Ho:l≠[]:=by
    obtain⟨y,hy⟩:=(Hw x).inh Gh;exact Qmo ((Y.2.1 y).2 (.inr hy))
   go_roundw;case rel=>
    refine⟨_,Hi,_,upd u x v,upd j x l,Hg,oM,hid ⟨Gj.mono oM,fun r=> ?_,fun r=> ?_,fun r=> ?_⟩,hid ⟨fun r=> ?_,fun r q=> ?_,fun r q=> ?_,fun r=> ?_⟩,hid (Hq.grown K (oH Hq.size) (fun k hk=>oI hk))⟩
    ·by_cases e:r=x
     ·subst e;rw [Qaq,atKey_put_same i.own.isMap (show WideAt.IsKeyLit (kI r) from trivial)]
     ·rw [Qai u v e,atKey_put_other (Qix e)];exact i.at' r
    ·by_cases e:r=x
     ·subst e;rw [Qaq,has_put_same i.own.isMap (show WideAt.IsKeyLit (kI r) from trivial)];cases l with
      | nil=>exact absurd rfl Ho
      | cons _ _=>rfl
     ·rw [Qai j l e,has_put_other (Qix e)];exact i.has' r
    ·by_cases e:r=x
     ·subst e;rw [Qaq,Qaq];exact Hy.kept K (QfH Hy S)
     ·rw [Qai u v e,Qai j l e];exact(Hu r).kept K (QfH (Hu r) S)
    ·by_cases e:r=x
     ·subst e;rw [Qaq];exact Y.1
     ·rw [Qai j l e];exact U.s r
    ·by_cases e:r=x
     ·subst e;rw [Qaq];exact Y.2.1
     ·rw [Qai j l e];exact U.done r (by rw [QbG] at q;simpa [e] using q)
    ·by_cases e:r=x
     ·subst e;rw [QbG] at q;simp at q
     ·rw [Qai j l e];exact U.todo r (by rw [QbG] at q;simpa [e] using q)
    ·by_cases e:r=x
     ·subst e;rw [Qaq];exact Y.2.2
     ·rw [Qai j l e];exact U.len r
   case measure=>rw [Hg.left_eq,Gg.out];exact Gi
def SK (f:Int ->Nat):Nat ->Nat
 | 0=>0
 | k+1=>SK f k+f (k:Int)
theorem QiK {f:Int ->Nat}(h:∀r,f r=0):∀k,SK f k=0
 | 0=>rfl
 | k+1=>by simp only [SK];rw [QiK h k,h]
theorem QiJ {f f':Int ->Nat}{x:Int}(ho:∀r,r≠x ->f' r=f r):∀k:Nat,((k:Int)<=x \/x<0) ->SK f' k=SK f k
 | 0,_=>rfl
 | k+1,h=>by simp only [SK];rw [QiJ ho k oM,ho k oM]
theorem Ql2 {f f':Int ->Nat}{x:Int}(ho:∀r,r≠x ->f' r=f r)(h0:0<=x):∀k:Nat,x<k ->SK f' k+f x=SK f k+f' x
 | 0,h=>oM
 | k+1,h=>by
  simp only [SK];by_cases e:x=(k:Int)
  ·rw [QiJ ho k oM,<- e];omega
  ·have:=Ql2 ho h0 k oM;rw [ho k (fun h=>e h.symm)];omega
theorem Qh4 {f:Int ->Nat}{c:Nat}(h:∀r,f r<=c):∀k,SK f k<=c*k
 | 0=>Uv _
 | k+1=>by have:=Qh4 h k;have:=h (k:Int);simp only [SK];rw [Nat.mul_succ];omega
theorem QfA (L:Int ->List (Int×Int)):∀k,(Qdt L k).length=SK (fun r=>(L r).length) k
 | 0=>rfl
 | k+1=>by
  by_cases e:(L (k:Int)).isEmpty=true
  ·rw [Qeq e,QfA L k];have:L (k:Int)=[]:=oU e;simp [SK,this]
  ·rw [Qer (oU e),UB,QfA L k];simp [SK,tag]
theorem QmC{D:DataW Value}{G:Int ->Value}(h:QcK w bm n D G L)(hL:∀r,L r≠[] ->0<=r/\ r<8)(hl:∀r,(L r).length<=4000):
  Cl 193 #[.map (Uq bm)] w (Rt w (Ud (((Qdt L 8).length:Nat):Int))):=by
 have Hf:=h.own.lt;have K:=h.own;have z:=hid h;have R:=hid hL;have A:=hid hl;have E:=hid (QfA L 8);clear h hL hl;obtain⟨Hd,B⟩:=zE ((Qdt L 8).length);rw [B] at E ⊢;clear B;go_enter func193,ntmps193;go_wp2_with (at_range;refine wpList_range_own _ rfl _ 126 rfl 3 182 (int_keyed underlying3) underlying126 Qc5 bm n D rfl K ?_;intro w0 N Y Hb);go_frame;have O:Bl w w0:=zI.grown Y zL (fun _ h=>by cases h);go_loopw [3] (fun v wr=>∃(m:Lit ->Bool) (Q q:Nat),v=Ud (q:Int)/\ wr.ranges prog 3 Qc5 bm w.heap.size n D m Q/\ Hid (q=SK (fun r=>if m (kI r) then 0 else(L r).length) 8)/\ Hid (Bl w wr))
  (fun _ wr=>wr.rangeLeft bm w.heap.size)
 case atStart=>
  refine⟨_,_,0,rfl,N,hid ?_,hid O⟩;rw [QiK (fun r=> ?_)];cases e:Maps.has D (kI r) with
  | true=>rfl
  | false=>
   rw [z.has' r] at e;have:L r=[]:=oU e;simp [this]
 case round=>
  clear N Y Hb O K;obtain⟨m,Q,q,rfl,g,b,s⟩:=hrel;have He:q<=32000:=by
   rw [b.out];have:=Qh4 (f:=fun r=>if m (kI r) then 0 else(L r).length) (c:=4000) (fun r=>by have:=A r;show (if _ then _ else _)<=_;split<;>omega) 8;omega
  go_wp2_with (at_next;refine Qb5 _ rfl _ rfl 3 (int_keyed underlying3) underlying3 bm w.heap.size n _ _ _ rfl g ?_ ?_)
  ·intro H;have P:Hid (q=Hd):=by
    have j:=b.out;rw [show (fun r=>if m (kI r) then 0 else(L r).length)=fun r=>(L r).length from funext fun r=>by rw [H (kI r)];rfl] at j;exact hid (j.trans E.symm)
   clear H g;go_wp2_with fail;go_ret;exact⟨Qeu (by rw [P.out]),s⟩
  ·intro x va t vc w1 Ha Hi J p X I Z Hc Hg;have V:G x=Uf va t vc:=by
    have j:=z.at' x;rw [p] at j;injection j with j;exact j.symm
   obtain⟨a',c',U,_⟩:=Qdd (z.rows x);rw [V] at U;injection U with ea en ec;subst ea ec;have C:0<=x/\ x<8:=by
    have j:=has_true_of_atKey p;rw [z.has' x] at j;exact R x (fun e=>by rw [e] at j;cases j)
   have Hh:t<=4000:=(by rw [en];exact A x);have W:Hid (q+t=SK (fun r=>if (m (kI r) && !(kI r).sameKey (kI x)) then 0 else(L r).length) 8):=by
    obtain⟨u,o⟩:∃u:Int ->Nat,u=fun r=>if m (kI r) then 0 else(L r).length:=⟨_,rfl⟩;obtain⟨y,i⟩:∃y:Int ->Nat,y=fun r=>if (m (kI r) && !(kI r).sameKey (kI x)) then 0 else(L r).length:=⟨_,rfl⟩;have j:=Ql2 (f:=u) (f':=y) (x:=x) (fun r hr=>by rw [o,i];show (if _ then _ else _)=(if _ then _ else _);rw [QbG];simp [hr]) C.1 8 C.2;have h2:u x=0:=(by rw [o];show (if _ then _ else _)=_;rw [J];rfl);have h3:y x=(L x).length:=(by rw [i];show (if _ then _ else _)=_;rw [QbG];simp);have h4:=b.out;rw [<- o] at h4;rw [<- i];exact hid oM
   have F:Hid (Bl w w1):=hid (s.grown Z s.size (fun k hk=>oI hk));have S:=hid g.left_eq;have M:=hid X;have T:=hid I;clear g Z Hc p V en J X I;go_wp2_with fail;go_roundw;case rel=>exact⟨_,Ha,q+t,oN,M,W,F⟩
   case measure=>rw [M.left_eq,S.out];exact T
def Qaf (l:List Rn):List Value:=l.flatMap fun p=>[Ud p.1,Ud p.2.1,Ud p.2.2]
theorem QcB (l:List Rn)(p:Rn):Qaf (l++[p])=Qaf l++[Ud p.1,Ud p.2.1,Ud p.2.2]:=by simp [Qaf]
def FR (w:Ur)(B:Nat)(v:Value)(l:List Rn):Prop:=w.ownsRow B 89 3 v l.length (Qaf l)
theorem QcK.look{D:DataW Value}{G:Int ->Value}(h:QcK w bm n D G L)(r:Int)(hr:(Lit.int Uh r).wf=true):
  (Instr.lookup 126 (.map (Uq bm)) (Ud r) false).run prog w=.ok (G r) w:=by
 obtain⟨v,ps,k,m⟩:=h.own.lookup (int_keyed underlying3) underlying126 (QgC w) (zd:=.held Ue) (zp:=[]) rfl (keyOf_int_mk underlying3 hr);have:=h.at' r;obtain⟨j,_⟩:=QdE m;unfold kI at this;rw [this] at j;have e:v=G r:=by injection j with j;exact j.symm
 rw [k,e]
theorem Qiy{D:DataW Value}{G:Int ->Value}(h:QcK w bm n D G L)(hL:∀r,L r≠[] ->0<=r/\ r<8):(KS L 8).Perm (intKeys D)/\ Maps.size D=(KS L 8).length:=by
 obtain⟨u,j,g,_⟩:=h.own.entries (int_keyed underlying3);obtain⟨y,k,z⟩:=h.own.keysOf;obtain rfl:u=y:=by rw [j] at k;simpa using k
 have q:(KS L 8).Perm (intKeys D):=by
  have m:=h.has';rw [j] at m ⊢;refine perm_intKeys g (fun p hp=>by obtain⟨v,t⟩:=z p hp;obtain⟨x,_,o,_⟩:=Maps.keyOf_i64 underlying3 t;exact⟨x,o⟩) ((Qks L 8).imp (fun h=>oM)) (fun x=> ?_);have:=m x;unfold kI at this;rw [this,Qdz];constructor
  ·rintro⟨_,_,c⟩;rw [c];rfl
  ·intro c;have c':(L x).isEmpty=false:=oU c;have:=hL x (by intro e;rw [e] at c';cases c');exact⟨this.1,this.2,c'⟩
 refine⟨q,?_⟩;rw [q.length_eq,j];simp [Maps.size_eq,intKeys]
def QfU (L:Int ->List (Int×Int))(ks:List Int):Nat ->List Rn
 | 0=>[]
 | k+1=>QfU L ks k++tag (ks.getD k 0) (L (ks.getD k 0))
theorem Qgy (L:Int ->List (Int×Int))(ks:List Int):∀k,k<=ks.length ->QfU L ks k=(ks.take k).flatMap fun r=>tag r (L r)
 | 0,_=>by simp [QfU]
 | k+1,h=>by
  have e:ks.take (k+1)=ks.take k++[ks.getD k 0]:=by
   rw [Vl];simp [UA,show k<ks.length by omega]
  rw [e,List.flatMap_append,<- Qgy L ks k oM];simp [QfU]
theorem QhY {L:Int ->List (Int×Int)}(hL:∀r,(L r).length<=4000)(ks:List Int):∀k,(QfU L ks k).length<=4000*k
 | 0=>by simp [QfU]
 | k+1=>by
  have:=QhY hL ks k;have:=hL (ks.getD k 0);simp only [QfU,UB,tag,Vm];omega
theorem Qls{t:Nat}(h:t<l.length):(tag r l).take (t+1)=(tag r l).take t++[(r,sF l t,sT l t)]:=by
 rw [Vl];simp [tag,sF,sT,UA,h]
theorem QiU{D:DataW Value}{G:Int ->Value}(h:QcK w bm n D G L)(hL:∀r,L r≠[] ->0<=r/\ r<8)(hl:∀r,(L r).length<=4000):
  Cl 135 #[.map (Uq bm)] w fun e w'=>∃v,e=Ui (Uo #[v])/\ FR w' w.heap.size v (Qdt L 8)/\ Bl w w':=by
 obtain⟨i0,hi,G2,G3,G4⟩:=info_parts Tryz.infoRun;have G8:=h.own.lt;obtain⟨kp,Hz⟩:=Qiy h hL;obtain⟨q,R⟩:=zE (KS L 8);have Gu:Hid (Qdt L 8=QfU L q q.length):=by
  refine hid ?_;rw [Qgy L q _ zL,Vn,<- R];rfl
 have Kb:q.length<=8:=R▸QfY L 8;have Hr:Hid (∀x∈q,0<=x/\ x<8/\ L x≠[]):=fun x S=>by
  rw [<- R] at S;have:=(Qdz L 8 x).1 S;exact⟨this.1,oM,fun e=>by rw [e] at this;simp at this⟩
 have H9:Hid (∀ss:List Int,ss.Perm (intKeys D) ->ss.mergeSort (fun x y=>decide (x<=y))=q/\ ss.length=q.length):=fun ss hs=>by rw [<- R];exact⟨QfZ kp hs,by rw [hs.length_eq,<- kp.length_eq]⟩
 rw [R] at Hz;clear R kp hL;have HG:=hid h;have H7:=hid hl;have Hg:Hid (∀r g,(G r).ownBlock=Uq g ->g<w.heap.size):=fun r g M=>((h.rows r).lt g M).2;clear h hl;obtain⟨V,I⟩:=zE ((w.alloc (Uj #[Ue] 26)).alloc (Uj #[Ue] 26));have H2:Hid (Bl w V):=I▸hid (Qad _ _ _);have X:Hid (V.heap.size=w.heap.size+2):=I▸hid oP;have c2:V.cell? (Ub w.heap.size)=Uq Ue:=I▸oP;have c3:V.cell? (Ua (w.heap.size+1) 0)=Uq Ue:=I▸oP;have f2:V.frozen? (Ub w.heap.size)=false:=I▸oP;have f3:V.frozen? (Ua (w.heap.size+1) 0)=false:=I▸oP;have Hf:=hid (HG.bw H2);go_enter func135,ntmps135;go_wp2_with fail;try rw [I]
 refine(QoG (Uq bm) V).mono ?_;rintro e w3 ⟨rfl,rfl⟩;go_wp2_with fail;refine(QjQ bm n D Qc5 V Hf.own (by rw [Hz];unfold maxLen;omega) (by rw [Hz];omega)).mono ?_;rintro e o ⟨v4,ss,rfl,He,Hc,K⟩;obtain⟨Gd,Ge⟩:=H9 ss He;rw [Gd,Ge] at Hc;have z4:w.heap.size+2<=o.heap.size:=oJ K.size X;have d2:=(K.cell (p:=(Ub w.heap.size)) (by have:=X.out;show w.heap.size<_;omega)).trans c2;have d3:=(K.cell (p:=(Ua (w.heap.size+1) 0)) (by have:=X.out;show w.heap.size+1<_;omega)).trans c3;have k2:=((Qc0 K).2 w.heap.size 0 (oH X)).trans f2;have k3:=((Qc0 K).2 (w.heap.size+1) 0 (oH X)).trans f3;have H3:=hid (Qaa H2 K);have H5:=hid (HG.bw H3);clear He Gd Ge H9 K I c2 c3 Hf f2 f3;have Gz:Hid (q.length=0 \/∃g cap,v4=Uf (Uc g) q.length cap/\ g<o.heap.size/\ w.heap.size+2<=g/\ q.length<=cap/\ cap<=9223372036854775807/\∀i,i<q.length ->o.cell? (Ua g i)=Uq (Ud (q.getD i 0))):=by
  refine hid ?_;have hr:=Hc;rcases Hc.2 with ⟨_,e0⟩|⟨g,cap,Ht,rfl,G7,M,G1,Gx,G9,Gk⟩
  ·exact .inl e0
  ·have:=X.out;unfold maxLen at Gx;exact .inr ⟨g,cap,rfl,(hr.lt g rfl).2,oM,G1,oM,Qid hr rfl⟩
 obtain⟨x4,Ga,e4⟩:∃x c,v4=Uf x q.length c:=by
  rcases Hc.2 with ⟨rfl,e0⟩|⟨g,cap,Ht,rfl,_⟩
  ·exact⟨Up,0,by rw [e0]⟩
  ·exact⟨_,_,rfl⟩
 subst e4;clear Hc;go_wp2_with fail;go_loopw [12] (fun iv wr=>∃(k:Nat) (v:Value),k<=q.length/\ iv=Ud k/\ wr.cell? (Ua (w.heap.size+1) 0)=Uq v/\ wr.cell? (Ub w.heap.size)=Uq Ue/\ wr.frozen? (Ub w.heap.size)=false/\ wr.frozen? (Ua (w.heap.size+1) 0)=false/\ Hid (FR wr o.heap.size v (QfU L q k))/\ Hid (o.grownBy wr (Uq (w.heap.size+1)))) (fun iv _=>q.length - (intOf iv).toNat);case atStart=>exact⟨0,_,Ux _,rfl,d3,d2,k2,k3,hid (VE _ _ _ _),hid ⟨rfl,rfl,rfl,Uv _,fun _ _ _=>rfl⟩⟩
 case round=>
  clear d2 d3 k2 k3;obtain⟨k,v,hk,rfl,Y,z,T,W,Hj,Hm⟩:=hrel;by_cases Hy:k<q.length
  ·have Hb:∃g,x4=Uq (Ub g)/\ q.length<=Ga/\ Ga<=9223372036854775807/\ wr.cell? (Ua g k)=Uq (Ud (q.getD k 0)):=by
    rcases Gz.out with h|⟨g,cap,e,M,Ka,q1,q2,hc⟩
    ·omega
    ·injection e with e1 z Y;subst e1 Y;have Hl:Uq g≠Uq (w.heap.size+1):=fun e=>oI e;exact⟨g,rfl,q1,q2,Hm.cell (hc k Hy) Hl⟩
   obtain⟨g,rfl,Kd,Ke,Gg⟩:=Hb;have Hk:=Hr (q.getD k 0) (by simp [UA,Hy]);have Hh:Hid (QfU L q (k+1)=QfU L q k++tag (q.getD k 0) (L (q.getD k 0))):=hid rfl;have Kc:=QhY H7 q k;obtain⟨x,S⟩:=zE (q.getD k 0);rw [S] at Hk Gg Hh;have Gm:(Lit.int Uh x).wf=true:=wfI oM oM;have gw:QcK wr bm n D G L:=H5.gr Hm (fun e=>oI e) (fun r g M e=>by injection e with e;have:=Hg r g M;omega);have Hx:=gw.look x Gm;obtain⟨xs,cs,eG,Gj,Hu,Gy⟩:=Qdd (H5.rows x);rw [eG] at Hx;have Hw:=H7 x;obtain⟨m,hm⟩:=zE ((L x).length);have H8:=hid Gj;have Gv:Hid (∀a,xs=Uq a ->a.block<w.heap.size):=hid fun a ha=>by
    have:=Hg x a.block (by rw [eG,ha];rfl);exact this
   rw [hm] at Hx Hu Hw H8;have HM:=hid hm;have HX:=hid S;clear gw eG Gj hm S Hk Gm;go_wp2_with fail;go_loopw [20] (fun iv wr2=>∃(t:Nat) (Q:Value),t<=m/\ iv=Ud t/\ wr2.cell? (Ua (w.heap.size+1) 0)=Uq Q/\ wr2.cell? (Ub w.heap.size)=Uq Ue/\ wr2.frozen? (Ub w.heap.size)=false/\ wr2.frozen? (Ua (w.heap.size+1) 0)=false/\ Hid (FR wr2 o.heap.size Q (QfU L q k++(tag x (L x)).take t))/\ Hid (o.grownBy wr2 (Uq (w.heap.size+1)))) (fun iv _=>m - (intOf iv).toNat);case atStart=>exact⟨0,v,Ux _,rfl,Y,z,T,W,hid (oU Hj),Hm⟩
   case round=>
    clear Y z Hx Hj Gg T W;obtain⟨t,Q,ht,rfl,Y,z,T,W,F,P⟩:=hrel;have zr:=P.size;have G0:(QfU L q k++(tag x (L x)).take t).length<=4000*k+4000:=(by simp only [UB,Vo];omega);obtain⟨fl,Hv⟩:=zE (QfU L q k++(tag x (L x)).take t);rw [Hv] at F G0;have H4:=hid Hv;clear Hv;by_cases H0:t<m
    ·have Hb:∃Z off,xs=Uq (Ua Z off)/\ wr.cell? (Ua Z (off+t*2))=Uq (Ud (sF (L x) t))/\ wr.cell? (Ua Z (off+t*2+1))=Uq (Ud (sT (L x) t)):=by
      rcases H8.out with h|⟨Z,off,e,M,hc⟩
      ·omega
      ·have H:=Gv _ e;have Hl:Uq Z≠Uq (w.heap.size+1):=fun e=>by injection e with e;have H:Z<w.heap.size:=H;omega
       exact⟨Z,off,e,P.cell (hc t H0).1 Hl,P.cell (hc t H0).2 Hl⟩
     obtain⟨Z,off,rfl,s0,s1⟩:=Hb;have Hs:=hid (Qls (r:=x) (l:=L x) (t:=t) (oH HM));obtain⟨qf,Gh⟩:=zE (sF (L x) t);obtain⟨qt,Gi⟩:=zE (sT (L x) t);rw [Gh] at s0 Hs;rw [Gi] at s1 Hs;clear Gh Gi;obtain⟨s,J⟩:=zE (wr.alloc (Uj #[Ud qf,Ud qt] 226));have B:Bl wr s:=J▸zO _ _;have r0:s.cell? (Ub wr.heap.size)=Uq (Ud qf):=J▸oP;have r1:s.cell? (Ua wr.heap.size 1)=Uq (Ud qt):=J▸oP;have Gc:=(B.cell (p:=(Ua (w.heap.size+1) 0)) (show w.heap.size+1<wr.heap.size by omega)).trans Y;have Gq:Hid (FR s o.heap.size Q fl):=J▸World.ownsRow.alloc F _;have Gs:Hid (o.grownBy s (Uq (w.heap.size+1))):=(by rw [<- J];exact hid (P.andThen (VG wr _ Up) (fun j hj=>by cases hj)));have Hn:=hid ((B.cell (p:=(Ub w.heap.size)) (show w.heap.size<wr.heap.size by omega)).trans z);have Hp:=hid (((Qc0 B).2 w.heap.size 0 oM).trans T);have Hq:=hid (((Qc0 B).2 (w.heap.size+1) 0 oM).trans W);have z5:=B.size;have H1:Hid (∀g,Q.ownBlock=Uq g ->o.heap.size<=g):=hid fun g M=>(World.ownsRow.lt F g M).1;clear B F P z T W;go_wp2_with (at_builtin;(try rw [J]);refine Qar rfl _ _ 24 rfl o.heap.size 89 i0 _ 3 24 underlying24 hi G2 G3 G4 rfl oD _ _ _ rfl (World.ownsRow.alloc Gq _) (Ub s.heap.size) 1 1 [Ud x,Ud qf,Ud qt] rfl rfl ?c1 ?c2 ?c3 ?c4 ?c5 ?_);case c1=>exact QaB _ _ _ _ _
     case c2=>intro u hu;simp at hu;rcases hu with rfl|rfl|rfl<;>rfl
     case c3=>unfold maxLen;omega
     case c4=>omega
     case c5=>simp;omega
     intro b A Ha N Hd;obtain⟨y7,n7,c7,rfl⟩:=Qbs Ha;obtain⟨b,Gl⟩:∃b,b=Value.slice y7 n7 c7:=⟨_,rfl⟩;rw [<- Gl] at Ha Hd;have Gf:Uq (w.heap.size+1)≠Q.ownBlock:=fun e=>by have:=H1 _ e.symm;omega
     have Hi:Uq w.heap.size≠Q.ownBlock:=fun e=>by have:=H1 _ e.symm;omega
     have C:Bl s (s.alloc (Uj #[Ud x,Ud qf,Ud qt] 89)):=zO _ _;have Gw:=N.cell ((C.cell (p:=(Ua (w.heap.size+1) 0)) (show w.heap.size+1<s.heap.size by omega)).trans Gc) Gf;have Gb:=N.cell ((C.cell (p:=(Ub w.heap.size)) (show w.heap.size<s.heap.size by omega)).trans Hn) Hi;have z7:=N.size;have z6:=C.size;have G6:A.frozen? (Ua (w.heap.size+1) 0)=false:=(UT (N.block (w.heap.size+1) oM Gf)).trans (((Qc0 C).2 (w.heap.size+1) 0 oM).trans Hq);have G5:A.frozen? (Ub w.heap.size)=false:=(UT (N.block w.heap.size oM Hi)).trans (((Qc0 C).2 w.heap.size 0 oM).trans Hp);have Ho:Hid (FR A o.heap.size b (QfU L q k++(tag x (L x)).take (t+1))):=by
      rw [Hs.out,<- Vg,H4.out];unfold FR;rw [QcB,UB];exact hid Ha
     have H6:Hid (o.grownBy A (Uq (w.heap.size+1))):=hid ((Gs.andThen (VG s _ Up) (fun j hj=>by cases hj)).andThen N (fun j hj=> .inl (H1 j hj)));have Gr:Hid (FR (A.setCell (Ua (w.heap.size+1) 0) b) o.heap.size b (QfU L q k++(tag x (L x)).take (t+1))):=by
      refine hid ?_;refine World.ownsRow.kept Ho (Qa6 A (Ua (w.heap.size+1) 0) b) ?_;cases e:b.ownBlock with
      | none=>exact .inl rfl
      | some g=>exact .inr (fun z=>by have:=(World.ownsRow.lt Ho g e).1;injection z with z;have z:g=w.heap.size+1:=z;omega)
     have Gt:Hid (o.grownBy (A.setCell (Ua (w.heap.size+1) 0) b) (Uq (w.heap.size+1))):=hid (H6.andThen (Qa6 A (Ua (w.heap.size+1) 0) b) (fun j hj=> .inr hj));have Go:=UM A (Ua (w.heap.size+1) 0) b Gw;have Gn:(A.setCell (Ua (w.heap.size+1) 0) b).cell? (Ub w.heap.size)=Uq Ue:=(UJ A (Ua (w.heap.size+1) 0) (Ub w.heap.size) b oQ).trans Gb;have HK:=hid (And.intro Go Gn);subst Gl;clear Ha N Hd Gc r0 r1 s0 s1 C Y J Go Gn Gb Ho H6;go_wp2_with fail;go_roundw;case rel=>exact⟨t+1,_,H0,oN,HK.1,HK.2,oU G5,by simpa using G6,Gr,Gt⟩
     case measure=>exact oE
    ·obtain rfl:t=m:=oM;have Gp:Hid (FR wr o.heap.size Q (QfU L q (k+1))):=by
      rw [Hh.out];have H:=F.out;rw [<- H4.out,Vp (by simp only [tag,Vm];have:=HM.out;omega)] at H;exact hid H
     clear F;go_wp2_with fail;go_roundw;case rel=>exact⟨k+1,Q,Hy,oN,Y,z,T,W,Gp,P⟩
     case measure=>exact oE
  ·obtain rfl:k=q.length:=oM;obtain⟨U,O,E,rfl⟩:=Qbs Hj;have HF:Hid (FR (wr.setCell (Ub w.heap.size) (Uf U O E)) w.heap.size (Uf U O E) (Qdt L 8)):=by
    rw [Gu.out];have H:=Hj.out;have h2:FR wr w.heap.size (Uf U O E) (QfU L q q.length):=by
     obtain⟨q1,q2⟩:=H;refine⟨q1,q2.imp id ?_⟩;rintro⟨g,cap,Ht,e,M,r⟩;exact⟨g,cap,Ht,e,oM,r⟩
    refine hid (World.ownsRow.kept h2 (Qa6 wr (Ub w.heap.size) (Uf U O E)) ?_);cases e:(Value.slice U O E).ownBlock with
    | none=>exact .inl rfl
    | some g=>exact .inr (fun z=>by have:=(World.ownsRow.lt H g e).1;injection z with z;have z:g=w.heap.size:=z;omega)
   have HB:Hid (Bl w (wr.setCell (Ub w.heap.size) (Uf U O E))):=hid ((H3.grown Hm oM (fun k hk=>oI hk)).setCell (p:=(Ub w.heap.size)) zL (Uf U O E));have k2:=UM wr (Ub w.heap.size) (Uf U O E) z;clear Hj;go_wp2_with fail;refine zF (v:=Uo #[Uf U O E]) (by simp [results,results135,go_sem,k2]) ⟨_,rfl,HF,HB⟩
variable {EX : Nat -> Option Value}
theorem QnH{y:Int}(v0 v1:Value)(g:w.grownBy w2 (Uq cb))(cu:Cur EX w2 cb a n c y)(hcl:cb<w.heap.size)(hb:w.heap.size<=b)
  (k0:w2.cell? (Ub b)=Uq u0) (k1:w2.cell? (Ua b 1)=Uq u1):
  ∃Z,Z=(w2.setCell (Ub b) v0).setCell (Ua b 1) v1/\ Z.cell? (Ub b)=Uq v0/\ Z.cell? (Ua b 1)=Uq v1/\ w.grownBy Z (Uq cb)/\ Cur EX Z cb a n c y:=by
 have j:∀k,k≠b ->((w2.setCell (Ub b) v0).setCell (Ua b 1) v1).heap[k]? =w2.heap[k]? :=fun k hk=>(zH _ _ _ _ hk).trans (zH _ _ _ _ hk);refine⟨_,rfl,?_,?_,⟨g.os,g.tape,g.output,by simpa [UL] using g.size,fun k hk hne=>(j k oM).trans (g.block k hk hne)⟩,cu.at' (j cb oM)⟩
 ·rw [UN _ _ _ _ oP];exact UM _ _ _ k0
 ·exact UM _ _ _ (by rw [UN _ _ _ _ oP];exact k1)
theorem QpA{y:Int}(v0 v1:Value)(g:w.grownBy w2 (Uq cb))(cu:Cur EX w2 cb a n c y)(hcl:cb<w.heap.size)
  (k0:w2.cell? (Ub w.heap.size)=Uq u0) (k1:w2.cell? (Ua w.heap.size 1)=Uq u1):
  ∃Z,Z=(w2.setCell (Ub w.heap.size) v0).setCell (Ua w.heap.size 1) v1/\ Z.cell? (Ub w.heap.size)=Uq v0/\ Z.cell? (Ua w.heap.size 1)=Uq v1/\ w.grownBy Z (Uq cb)/\ Cur EX Z cb a n c y:=QnH v0 v1 g cu hcl zL k0 k1
def QeG:Int ->List (Int×Int) ->List Int
 | _,[]=>[]
 | least,p::l=>uvF 9 (p.1 - least).toNat++uvF 9 (p.2 - p.1).toNat++QeG (p.2+2) l
def okS:Int ->List (Int×Int) ->Prop
 | _,[]=>True
 | least,p::l=>least<=p.1/\ p.1<=p.2/\ p.2<=1000000000/\ okS (p.2+2) l
def Qgj:List (Int×List (Int×Int)) ->List Int
 | []=>[]
 | p::g=>uvF 9 p.1.toNat++uvF 9 p.2.length++QeG 1 p.2++Qgj g
def okR:Int ->Int ->List (Int×List (Int×Int)) ->Prop
 | _,_,[]=>True
 | before,left,p::g=>before<p.1/\ 0<=p.1/\ p.1<=7/\ p.2≠[]/\ (p.2.length:Int)<=left/\ okS 1 p.2/\ okR p.1 (left - p.2.length) g
def QlC (g:List (Int×List (Int×Int))):List Int:=uvF 9 g.length++Qgj g
theorem QjB:∀(g:List (Int×List (Int×Int))) (j k:Int),okR j k g -> -1<=j ->j<=7 ->(g.length:Int)<=7 - j:=by
 intro g;induction g with
 | nil=>intro j k _ m q;simp;omega
 | cons p g ih=>
  rintro j k ⟨u,v,y,z,h,t,r⟩ m q;have:=ih p.1 _ r oM oM;simp only [Vq];omega
theorem Qqs{x:Nat}{V M:Nat}{least:Int}(h:Cu EX w cb a n c f x)(hl:1<=least)(hb:least+(V:Int)+(M:Int)<=1000000000)(hR:Rb f n x (uvF 9 V++uvF 9 M) x'):
  Cl 233 #[Uk (Uc cb),Ud least] w fun e w'=>CuP EX w cb a n c f x' (Ul #[Uo #[Ud (least+(V:Int)),Ud (least+(V:Int)+(M:Int))],.nilIface]) e w':=by
 obtain⟨y,O,Q⟩:=hR.app;have N:=h.lt;obtain⟨W,j⟩:=zE (w.alloc (Uj #[Ud 0,Ud 0] 226));have k:Bl w W:=j▸zO _ _;have F:W.heap.size=w.heap.size+1:=j▸oP;have A:w.grownBy W (Uq cb):=Qa7 (Qbe w (Uq cb)) k;have o:Bx2 W w.heap.size (Ud 0) (Ud 0):=j▸Bx2.made _ _ _ _;have U:Hid (∀w1,W.grownBy w1 (Uq cb) ->Bx2 w1 w.heap.size (Ud 0) (Ud 0)):=hid (fun w1 g=>o.sm (g.block w.heap.size oM oS) g.size);have u:=hid (QbN (most:=1000000000 - least) (h.bw k) oM oM O);have z:=hid (fun w1(h1:Cu EX w1 cb a n c f y)=>QbN (most:=1000000000 - (least+(V:Int))) h1 oM oM Q);have J:=hid A;have Y:=hid h;have K:IntKind.i64.wrap (1000000000 - least)=1000000000 - least:=Qat _ oM oM;have P:IntKind.i64.wrap (least+(V:Int))=least+(V:Int):=Qat _ oM oM;have L:IntKind.i64.wrap (1000000000 - (least+(V:Int)))=1000000000 - (least+(V:Int)):=Qat _ oM oM;have R:IntKind.i64.wrap (least+(V:Int)+(M:Int))=least+(V:Int)+(M:Int):=Qat _ oM oM;clear h hR O Q A k o F;go_enter func233,ntmps233;go_wp2_with fail;try rw [K]
 try rw [j]
 clear j;refine u.mono ?_;rintro e w1 ⟨rfl,s,b⟩;have q:=hid (z w1 b);have r:=hid s;clear s b u z;go_wp2_with fail;try rw [L]
 refine q.mono ?_;rintro e T ⟨rfl,m,p⟩;have i:=U _ (Qan r m);obtain⟨X,B,S⟩:=i.p2;have I:=hid (Qan J (Qan r m));have G:=hid p;clear m p q i;go_wp2_with fail;obtain⟨Z,E,C,D,t,H⟩:=QpA (Ud (least+(V:Int))) (Ud (least+(V:Int)+(M:Int))) I G.cur N X B;rw [<- E];clear E;exact bodyPost_ret (v:=Ul #[Uo #[Ud (least+(V:Int)),Ud (least+(V:Int)+(M:Int))],.nilIface]) (by simp [results,results233,go_sem,C,D]) rfl ⟨rfl,t,Y.mv t H⟩
theorem SR.grown(h:SR w B v l)(g:w.grownBy w1 (Uq cb))(hB:cb<B):SR w1 B v l:=by
 refine World.ownsRow.kept h g ?_;cases e:v.ownBlock with
 | none=>exact .inl rfl
 | some k=>exact .inr (fun e2=>by have:=(World.ownsRow.lt h k e).1;injection e2 with e2;omega)
theorem Qd0 {α:Type}{l:List α}(h:k<l.length):∃p,l.drop k=p::l.drop (k+1)/\ l.take (k+1)=l.take k++[p]:=⟨l[k],oP,by rw [List.take_append_getElem h]⟩
theorem Qpn{x:Nat}(h:Cu EX w cb a n c f x)(hl:(l.length:Int)<=left)(He:left<=1000)(h0:l≠[])(K:okS 1 l)(hR:Rb f n x (uvF 9 l.length++QeG 1 l) x'):
  Cl 211 #[Uk (Uc cb),Ud left] w fun e w'=>∃v,CuP EX w cb a n c f x' (Ul #[v,.nilIface]) e w'/\ SR w' w.heap.size v l:=by
 obtain⟨i0,hi,Hp,Hq,Hr⟩:=info_parts Tryz.infoSpan;obtain⟨y0,i,r2⟩:=hR.app;have Hn:=h.lt;have I:=hid (QbN h hl oM i);have Hj:=hid h;obtain⟨V,O⟩:=zE l.length;have E:=hid O;have Hs:0<V:=O▸List.length_pos_iff.2 h0;have HR:=hid (And.intro K r2);rw [O] at I hl;have d0:((V:Int)==0)=false:=oS;clear h hR i r2 K O h0;go_enter func211,ntmps211;go_wp2_with fail;refine I.mono ?_;rintro e w1 ⟨rfl,g1,cu⟩;have HG:=hid g1;have HC:=hid cu;clear g1 cu I;go_wp2_with fail;go_loopw [8,9,26] (fun sv lv iv wr=>∃(k y:Nat) (r:Int),k<=V/\ iv=Ud (k:Int)/\ lv=Ud r/\ 1<=r/\ r<=1000000002/\ Hid (SR wr w.heap.size sv (l.take k))/\ Hid (Cu EX wr cb a n c f y)/\ Hid (w.grownBy wr (Uq cb))/\ Hid (okS r (l.drop k)/\ Rb f n y (QeG r (l.drop k)) x')) (fun _ _ iv _=>V - (intOf iv).toNat);case atStart=>exact⟨0,y0,1,Ux _,rfl,rfl,oM,oM,hid (by simp;exact VE _ _ _ _),HC,HG,HR⟩
 case round=>
  obtain⟨k,y,r,K,rfl,rfl,He,Ht,o,Q,U,Z⟩:=hrel;have zr:=U.size;by_cases Hf:k<V
  ·obtain⟨p,hp,ht⟩:=Qd0 (l:=l) (k:=k) (by rw [E.out];exact Hf);obtain⟨Hg,N⟩:=Z.out;rw [hp] at Hg N;obtain⟨o1,o2,o3,B⟩:=Hg;obtain⟨x2,C,D⟩:=(show Rb f n y ((uvF 9 (p.1 - r).toNat++uvF 9 (p.2 - p.1).toNat)++QeG (p.2+2) (l.drop (k+1))) x' from N).app;have e1:r+(((p.1 - r).toNat:Nat):Int)=p.1:=oM;have e2:p.1+(((p.2 - p.1).toNat:Nat):Int)=p.2:=oM;have A:=hid (Qqs Q He oM C);rw [e1,e2] at A;obtain⟨s,t⟩:=p;dsimp only at A o1 o2 o3 B D;have H:=hid (And.intro B (And.intro D ht));have Hi:(l.take k).length=k:=(by rw [Vo,E.out];omega);have W:=hid Hi;obtain⟨G,L⟩:=zE (l.take k);rw [L] at o W;have Hl:=hid L;obtain⟨c0,c1,c2,_⟩:=Q.cur;clear C D e1 e2 B hp ht N Z Hi L;go_wp2_with fail;refine A.mono ?_;rintro e m ⟨rfl,M,Hd⟩;have X:=o.grown M Hn;have J:Hid (∀g,u8.ownBlock=Uq g ->w.heap.size<=g/\ g<m.heap.size):=hid fun g hg=>World.ownsRow.lt X g hg;obtain⟨q,z⟩:=zE (m.alloc (Uj #[Ud s,Ud t] 226));have b3:Bl m q:=z▸zO _ _;have Hc:Hid (q.heap.size=m.heap.size+1):=z▸hid oP;have r0:q.cell? (Ub m.heap.size)=Uq (Ud s):=z▸oP;have i:q.cell? (Ua m.heap.size 1)=Uq (Ud t):=z▸oP;have T:Hid (SR q w.heap.size u8 G):=z▸World.ownsRow.alloc X _;have P:=hid (Hd.bw b3);have R:=hid (Qa7 (Qan U M) b3);have z2:=M.size;have zz:w.heap.size<=m.heap.size:=oM;have e3:IntKind.i64.wrap (t+2)=t+2:=Qat _ oM oM;have Ho:G.length=k:=W.out;subst Ho;clear M Hd A c0 c1 c2 o Q U b3 X;go_wp2_with (at_builtin;go_loud ((try rw [z]);refine Qar rfl _ _ 182 rfl w.heap.size 226 i0 _ 2 16 underlying182 hi Hp Hq Hr rfl oD _ _ _ rfl (World.ownsRow.alloc T _) (Ub q.heap.size) 1 1 [Ud s,Ud t] rfl rfl ?c1 ?c2 ?c3 ?c4 ?c5 ?_));case c1=>exact Qm8 _ _ _ _
   case c2=>intro u hu;simp at hu;rcases hu with rfl|rfl<;>rfl
   case c3=>unfold maxLen;omega
   case c4=>omega
   case c5=>have:=Hc.out;simp;omega
   intro v4 F Ha Y Hb;have z3:=Hc.out;have b:Hid (Bl q (q.alloc (Uj #[Ud s,Ud t] 226))):=hid (zO _ _);have n1:Uq m.heap.size≠u8.ownBlock:=fun e=>by have:=(J _ e.symm).2;omega
   have n2:Uq cb≠u8.ownBlock:=fun e=>by have:=(J _ e.symm).1;omega
   have C:=Y.cell ((b.cell (p:=(Ua m.heap.size 1)) (show m.heap.size<q.heap.size by omega)).trans i) n1;have S:Hid (w.grownBy F (Uq cb)):=hid ((Qa7 R b).andThen Y (fun j hj=> .inl (J j hj).1));have Hk:Hid (Cu EX F cb a n c f x2):=by
    have h:=P.bw b;exact hid (Hj.mv S (h.cur.at' (Y.block cb h.lt n2)))
   have Hm:Hid (SR F w.heap.size v4 (l.take (G.length+1))):=by
    rw [H.2.2,Hl.out];unfold SR;rw [Qa3,UB];exact hid Ha
   clear Ha Y Hb r0 i z b P R T z3;go_wp2_with fail;go_roundw;case rel=>exact⟨G.length+1,x2,t+2,Hf,oN,rfl,oM,oM,Hm,Hk,S,hid ⟨H.1,H.2.1⟩⟩
   case measure=>exact oE
  ·obtain rfl:k=V:=oM;have hd:l.drop k=[]:=(by rw [<- E.out];simp);have Hh:l.take k=l:=(by rw [<- E.out];simp);have HX:Hid (x'=y):=hid (by have:=Z.2;rw [hd] at this;exact this.nil);rw [Hh] at o;clear Z hd Hh;go_wp2_with fail;go_ret2;exact⟨_,⟨rfl,U,by rw [HX.out];exact Q⟩,o⟩
theorem Qlf{x:Nat}{before:Int}(h:Cu EX w cb a n c f x)(hr:before<r)(h0:0<=r)(h7:r<=7)(hl:(l.length:Int)<=left)(hl1:left<=1000)(hl0:l≠[])(hk:okS 1 l)(hR:Rb f n x (uvF 9 r.toNat++(uvF 9 l.length++QeG 1 l)) x'):
  Cl 186 #[Uk (Uc cb),Ud before,Ud left] w fun e w'=>∃v,CuP EX w cb a n c f x' (Ul #[Ud r,v,.nilIface]) e w'/\ SR w' w.heap.size v l:=by
 obtain⟨U,t,o⟩:=hR.app;have j:=hid (QbN (most:=7) h oM oM t);rw [show ((r.toNat:Nat):Int)=r by omega] at j;have V:=hid h;have q:=hid (fun w1(h1:Cu EX w1 cb a n c f U)=>Qpn h1 hl hl1 hl0 hk o);have Y:decide (r<=before)=false:=oU hr;clear h hR t o hk hl0;go_enter func186,ntmps186;go_wp2_with fail;refine j.mono ?_;rintro e w1 ⟨rfl,k,u⟩;have p:=hid k;have G:=k.size;have m:=hid (q w1 u);clear k u j q;go_wp2_with fail;refine m.mono ?_;rintro e Q ⟨v,⟨rfl,z,y⟩,i⟩;have s:=hid (Qan p z);have b:=hid y;have A:Hid (SR Q w.heap.size v l):=by
  obtain⟨M,O⟩:=i;refine hid ⟨M,O.imp id ?_⟩;rintro⟨g,cap,E,e,Z,r⟩;exact⟨g,cap,E,e,oM,r⟩
 clear z y i m;go_wp2_with fail;go_ret3;exact⟨v,⟨rfl,s,b⟩,A⟩
theorem QcK.step{D:DataW Value}{G:Int ->Value}(h:QcK w bm n D G L)(ho:w.ownsRow 0 226 2 v l.length (Qak l))(hl:l≠[])
  (hD:w1.ownsMap prog 3 Qc5 bm (n+1) (D.put (kI r) (.held v))) (hg:w.grownBy w1 (Uq bm)):
  QcK w1 bm (n+1) (D.put (kI r) (.held v)) (upd G r v) (upd L r l):=by
 refine⟨hD,fun x=> ?_,fun x=> ?_,fun x=> ?_⟩
 ·by_cases e:x=r
  ·subst e;rw [Qaq,atKey_put_same h.own.isMap (show WideAt.IsKeyLit (kI x) from trivial)]
  ·rw [Qai G v e,atKey_put_other (Qix e)];exact h.at' x
 ·by_cases e:x=r
  ·subst e;rw [Qaq,has_put_same h.own.isMap (show WideAt.IsKeyLit (kI x) from trivial)];cases l with
   | nil=>exact absurd rfl hl
   | cons _ _=>rfl
  ·rw [Qai L _ e,has_put_other (Qix e)];exact h.has' x
 ·by_cases e:x=r
  ·subst e;rw [Qaq,Qaq];exact ho.kept hg (QfH ho h.own)
  ·rw [Qai G v e,Qai L _ e];exact(h.rows x).kept hg (QfH (h.rows x) h.own)
def lkS (g:List (Int×List (Int×Int)))(r:Int):List (Int×Int):=g.foldl (fun L p=>upd L p.1 p.2) (fun _=>[]) r
theorem QkR (g:List (Int×List (Int×Int)))(p:Int×List (Int×Int)):lkS (g++[p])=upd (lkS g) p.1 p.2:=by
 funext r;unfold lkS;rw [List.foldl_append];rfl
theorem QmY (k:Nat)(w:Ur)(hk:k<=9):
  Cl 162 #[Ud (k:Int)] w fun e w'=>e=Ui (Ug .u64 ((128^k:Nat):Int))/\ w'=w:=by
 go_enter func162,ntmps162;go_wp2_with fail;go_loop [3,4] (fun v i=>∃(j x:Nat),j<=k/\ Hid (x=128^j)/\ i=Ud (j:Int)/\ v=Ug .u64 (x:Int)) (fun _ i=>k - (intOf i).toNat);case atStart=>exact⟨0,1,Ux _,hid oP,rfl,rfl⟩
 case round=>
  obtain⟨j,x,r,m,rfl,rfl⟩:=hrel;by_cases q:j<k
  ·have u:x<=72057594037927936:=by
    have:=Nat.pow_le_pow_right (n:=128) oM (show j<=8 by omega);have e:=m.out;simp at this;omega
   go_wp2_with fail;go_round;case rel=>exact⟨j+1,x*128,q,hid (by have:=m.out;rw [Uu,this]),oN,oN⟩
   case measure=>exact oE
  ·obtain rfl:j=k:=oM;go_wp2_with fail;go_ret;exact⟨Qeu (by rw [m.out];simp),rfl⟩
theorem QqL {a b c a' b' c':Int}(h1:a=a')(h2:b=b')(h3:c=c'):Ending.returned (Ul #[Ug .u64 a,Ud b,Ud c])=Ui (Ul #[Ug .u64 a',Ud b',Ud c']):=by rw [h1,h2,h3]
theorem QqP:∀(k V x:Nat),V<128^(k+1) ->Rb f n x (uvF k V) x' ->∃m,m<=k/\ x'=x+m+1/\ (∀i,i<m ->128<=f (x+i))/\ f (x+m)<128/\ (0<m ->0<f (x+m))/\ (∀i,i<=m ->f (x+i)%128=((V/128^i%128:Nat):Int))/\ V<128^(m+1)/\ 0<=f (x+m):=by
 have Q:∀(k V x:Nat),V<128 ->Rb f n x (uvF k V) x' ->x'=x+0+1/\ f (x+0)=(V:Int):=fun k V x h j=>by
  rw [Qe4 _ _ h] at j;obtain⟨q,O,v⟩:=j.cons;exact⟨v.nil,q⟩
 have y:∀(k V x:Nat),V<128 ->Rb f n x (uvF k V) x' ->∃m,m<=k/\ x'=x+m+1/\ (∀i,i<m ->128<=f (x+i))/\ f (x+m)<128/\ (0<m ->0<f (x+m))/\ (∀i,i<=m ->f (x+i)%128=((V/128^i%128:Nat):Int))/\ V<128^(m+1)/\ 0<=f (x+m):=fun k V x h j=>by
  obtain⟨z,g⟩:=Q k V x h j;refine⟨0,Ux _,z,fun i hi=>oM,oM,fun h=>oM,fun i hi=> ?_,oU h,oM⟩;obtain rfl:i=0:=oM;rw [g,VM,VN];omega
 intro k;induction k with
 | zero=>intro V x u j;exact y 0 V x (oU u) j
 | succ k ih=>
  intro V x u j;by_cases o:V<128
  ·exact y _ V x o j
  ·rw [Qe3 _ _ o] at j;obtain⟨q,O,v⟩:=j.cons;obtain⟨m,z,g,b,p,s,t,A,E⟩:=ih (V/128) (x+1) (by rw [Uu] at u;omega) v;have e:∀i,x+(i+1)=x+1+i:=fun i=>oM;refine⟨m+1,oM,oM,fun i hi=> ?_,by rw [e];exact p,fun _=> ?_,fun i hi=> ?_,by rw [Uu];omega,by rw [e];exact E⟩
   ·cases i with
    | zero=>rw [VO,q];omega
    | succ i=>rw [e];exact b i oM
   ·rw [e];rcases VL m with r|r
    ·subst r;have M:=t 0 zL;rw [VM,VN] at M;have U:V/128<128:=oU A;omega
    ·exact s r
   ·cases i with
    | zero=>rw [VO,q,VM,VN];omega
    | succ i=>rw [e,t i oM,Nat.div_div_eq_div_mul,Uu,Nat.mul_comm 128]
theorem QkU (V j:Nat):V%128^(j+1)=V%128^j+V/128^j%128*128^j:=by
 rw [Uu,Nat.mod_mul,Nat.mul_comm (128^j)]
theorem Qq1 (a:Option Us)(n c p x' V:Nat)(f:Nat ->Int)(w:Ur)(hn:n<=1048576)(hf:Byt f)(h:Seg w a n f)(hV:V<18446744073709551616)(hR:Rb f n p (uvF 9 V) x'):
  Cl 137 #[Uf a n c,Ud (p:Int)] w (Rt w (Ul #[Ug .u64 (V:Int),Ud (x':Int),Ud 0])):=by
 obtain⟨m,Hv,R,X,Hk,C,Q,J,Hb⟩:=QqP 9 V p oM hR;have Hz:=hR.2.2;rcases h with h|⟨b,off,rfl,L,s⟩
 ·omega
 obtain⟨z,E⟩:∃z:Nat,f (p+m)=(z:Int):=⟨(f (p+m)).toNat,oM⟩;have H1:z<128:=oM;have Hp:9<=m ->z<=1:=fun o=>by
  obtain rfl:m=9:=oM;have:=Q 9 zL;rw [E] at this;simp only [Nat.reducePow] at this;omega
 have Ho:0<m ->0<z:=fun h=>oH (C h);have HL:=hid X;have W:=hid Q;have Hf:=hid J;have HX:=hid R;have Hl:p+m<n:=oM;clear Hk C Q J X hR R Hb;go_enter func137,ntmps137;go_wp2_with fail;go_loop [7] (fun i=>∃k:Nat,k<=m/\ i=Ud (k:Int)) (fun i=>m - (intOf i).toNat);case atStart=>exact⟨0,Ux _,rfl⟩
 case round=>
  obtain⟨k,hk,rfl⟩:=hrel;by_cases B:k<m
  ·have Hg:w.cell? (Ua b (off+(p+k)))=Uq (Ug .u8 (f (p+k))):=s (p+k) oM;have Ht:128<=f (p+k):=HL k B;have Hx:p+k<n:=oM;have Hu:k<9:=oM;go_wp2_with fail;go_round;case rel=>exact⟨k+1,B,oN⟩
   case measure=>exact oE
  ·obtain rfl:k=m:=oM;have Hg:w.cell? (Ua b (off+(p+k)))=Uq (Ug .u8 (z:Int)):=(by rw [s (p+k) Hl,E]);have He:=hid s;have HZ:=hid E;clear E s;go_upto_region 4 with fail;go_cut [38] from 11 to 38 (fun bb wx=>bb=Un false/\ w=wx);case first=>
    by_cases o:k<9
    ·have O:decide ((128:Int)<=(z:Int))=false:=oS;go_wp2_with fail;go_meet;exact⟨rfl,rfl⟩
    ·have H:decide ((k:Int)<9)=false:=oS;clear o;go_wp2_with fail;go_meet;exact⟨rfl,rfl⟩
   case rest=>
   obtain⟨rfl,rfl⟩:=hcut;go_upto_region 9 with fail;go_cut [59] from 11 to 59 (fun bb wx=>bb=Un false/\ w=wx);case first=>
    by_cases o:k<9
    ·have H:((k:Int)==9)=false:=oS;go_wp2_with fail;go_meet;exact⟨rfl,rfl⟩
    ·have H:((k:Int)==9)=true:=oS;have O:decide ((1:Int)<(z:Int))=false:=(by have:=Hp oM;simp;omega);clear o;go_wp2_with fail;go_meet;exact⟨rfl,rfl⟩
   case rest=>
   obtain⟨rfl,rfl⟩:=hcut;go_upto_region 11 with fail;go_cut [66] from 11 to 66 (fun bb wx=>bb=Un false/\ w=wx);case first=>
    by_cases h0:0<k
    ·have O:((z:Int)==0)=false:=(by have:=Ho h0;simp;omega);have dk:decide ((0:Int)<(k:Int))=true:=oS;go_wp2_with fail;go_meet;exact⟨by first|rfl|rw [O],rfl⟩
    ·have dk:¬(0:Int)<(k:Int):=oM;have Hq:decide (0<k)=false:=oS;have Hr:decide ((0:Int)<(k:Int))=false:=oS;go_wp2_with fail;go_meet;exact⟨by first|rfl|omega,rfl⟩
   case rest=>
   obtain⟨rfl,rfl⟩:=hcut;go_wp2_with fail;go_loopw [9,10] (fun v i wr=>∃(j x:Nat),j<=k+1/\ Hid (x=V%128^j)/\ i=Ud (j:Int)/\ v=Ug .u64 (x:Int)/\ Hid (Bl w wr)) (fun _ i _=>k+1 - (intOf i).toNat);case atStart=>exact⟨0,0,Ux _,hid (by simp [Nat.mod_one]),rfl,rfl,hid zI⟩
   case round=>
    obtain⟨j,x,hj,P,rfl,rfl,g⟩:=hrel;by_cases Hi:j<=k
    ·have Hj:p+j<n:=oM;obtain⟨y,G⟩:∃y:Nat,f (p+j)=(y:Int):=⟨(f (p+j)).toNat,oH ((hf (p+j)).1)⟩;have H0:y<256:=oH ((hf (p+j)).2);have N:wr.cell? (Ua b (off+(p+j)))=Uq (Ug .u8 (y:Int)):=(by rw [g.cell (p:=(Ua b _)) L,He.out (p+j) Hj,G]);have Hs:=Ut L g.size;obtain⟨t,Y⟩:∃t:Nat,t=128^j:=⟨_,rfl⟩;have A:V%128^(j+1)=x+y%128*t:=by
      have e:=W j Hi;rw [G] at e;rw [QkU,P.out,Y];congr 2;omega
     have Hn:x+y%128*t<18446744073709551616:=A▸Nat.lt_of_le_of_lt (Nat.mod_le _ _) hV;have HT:=hid Y;have Hh:j<=9:=oM;obtain⟨q,D⟩:∃q:Nat,q=p+j:=⟨_,rfl⟩;have Hy:IntKind.i64.wrap ((p:Int)+(j:Int))=(q:Int):=(by rw [Qat _ oM oM];omega);have Hw:(0:Int)<=(q:Int):=UI _;have Hm:(q:Int)<(n:Int):=oM;rw [<- D] at N;obtain⟨r,U⟩:∃r:Nat,r=y%128*t:=⟨_,rfl⟩;obtain⟨M,F⟩:∃M:Nat,M=x+r:=⟨_,rfl⟩;have Ha:IntKind.u64.wrap ((x:Int)+(r:Int))=(M:Int):=(by rw [UU];omega);obtain⟨u,Z⟩:∃u:Nat,u=y%128:=⟨_,rfl⟩;have Hc:IntKind.u64.wrap ((y:Int).tmod 128)=(u:Int):=(by rw [Int.tmod_eq_emod_of_nonneg oM,UU];omega);have Hd:IntKind.u64.wrap ((u:Int)*(t:Int))=(r:Int):=by
      have e:((u*t:Nat):Int)=(u:Int)*(t:Int):=(by push_cast;rfl);rw [Z,<- U] at e;rw [UU,Z,<- e];omega
     rw [<- U,<- F] at A;have HS:=hid A;clear G A Y D U Hn F Z;go_wp2_with fail;refine zR (S:=fun w'=>Bl wr w'/\ w'.cell? (Ua b (off+q))=Uq (Ug .u8 (y:Int))) ⟨zI.drew,N⟩ (fun qh=> ?_);refine tZ 0 73 ?_;refine tZ 1 74 ?_;refine tZ 2 75 ?_;refine tZ 3 76 ?_;refine tZ 4 77 ?_;refine tZ 5 78 ?_;refine tZ 6 79 ?_;refine tZ 7 80 ?_;refine tZ 8 81 ?_;refine tZ 9 82 ?_;refine cZ 10 ?_;intro K I;go_simp;refine(QmY j _ Hh).mono ?_;rintro e w2 ⟨rfl,rfl⟩;rw [<- HT.out];refine I.out _ _ ⟨qh.1,qh.2⟩ (fun qh=> ?_);clear I K;try simp only [zP]
     refine tZ 11 84 ?_;refine tZ 12 85 ?_;refine tZ 13 9 ?_;refine zD ?_;have T:=hid qh.1;clear qh;go_wp2_with fail;go_roundw;case rel=>exact⟨j+1,M,oM,hid (HS.symm),oN,by first|rfl|(simp only [Hc,Hd,Ha]),hid (g.trans (T.mono g.size))⟩
     case measure=>exact oE
    ·obtain rfl:j=k+1:=oM;go_wp2_with fail;go_ret3;exact⟨QqL (by rw [P.out,Nat.mod_eq_of_lt Hf.out]) (by rw [HX.out];simp<;>omega) rfl,g⟩
theorem QcZ (a:Option Us)(n c p x' V:Nat)(most:Int)(f:Nat ->Int)(w:Ur)(hn:n<=1048576)(hf:Byt f)(hs:Seg w a n f)(hV:(V:Int)<=most)(hm1:most<=1000000000000)(hR:Rb f n p (uvF 9 V) x'):
  Cl 118 #[Uf a n c,Ud (p:Int),Ud most] w (Rt w (Ul #[Ud (V:Int),Ud (x':Int),Un true])):=by
 have j:=hid (Qq1 a n c p x' V f w hn hf hs oM hR);have u:IntKind.u64.wrap most=most:=by rw [UU];omega
 have r:decide (most<(V:Int))=false:=oU hV;have q:IntKind.i64.wrap (V:Int)=(V:Int):=by rw [VP];omega
 clear hs hR;go_enter func118,ntmps118;go_wp2_with fail;refine j.mono ?_;rintro e w1 ⟨rfl,k⟩;have m:=hid k;clear k j;go_wp2_with fail;go_ret3;exact⟨by first|rfl|rw [q],m⟩
theorem QhI (a:Option Us)(n c p x' M:Nat)(s:ByteArray)(f:Nat ->Int)(w:Ur)(hn:n<=1048576)(hnc:n<=c)(hf:Byt f)(h:Seg w a n f)(hV:s.size<=M)(hm1:M<=1000000)(hR:Rb f n p (Qae s) x'):
  Cl 119 #[Uf a n c,Ud (p:Int),Ud (M:Int)] w (Rt w (Ul #[Um s,Ud (x':Int),Ud 0])):=by
 obtain⟨q,j,Z⟩:=hR.app;obtain⟨t,u,Y⟩:=Z;rw [Qas] at u;have m:=QjY hf t;obtain⟨V,A⟩:=zE s.size;rw [A] at u m j hV;have z:=hid (Qq1 a n c p q V f w hn hf h oM j);have L:0<n:=by have:=j.2.1;have:=(Qah 9 V).2;have:=j.2.2;omega
 have g:Hid ((x':Int)=(q:Int)+(V:Int)):=hid oM;have O:=hid h;have y:=hid m;have E:=hid hf;have X:q+V<=n:=oM;obtain⟨r,U⟩:∃r:Nat,(r:Int)=(n:Int) - (q:Int):=⟨n - q,oM⟩;have R:IntKind.u64.wrap (IntKind.i64.wrap ((n:Int) - (q:Int)))=(r:Int):=by rw [Qat _ oM oM,UU];omega
 have S:IntKind.u64.wrap ((n:Int) - (q:Int))=(r:Int):=by rw [UU];omega
 have C:V<=r:=oM;have P:IntKind.u64.wrap (M:Int)=(M:Int):=by rw [UU];omega
 have K:decide ((M:Int)<0)=false:=oP;have F:IntKind.i64.wrap (V:Int)=(V:Int):=Qat _ oM oM;have T:IntKind.i64.wrap ((q:Int)+(V:Int))=(q:Int)+(V:Int):=Qat _ oM oM;clear h hR j t u Y m A hf U;go_enter func119,ntmps119;go_wp2_with fail;refine z.mono ?_;rintro e w1 ⟨rfl,k⟩;have v:=hid k;rcases O.bw k with h|⟨b,off,rfl,G,o⟩
 ·omega
 clear k z;have Q:∀cap,(convert 22 9 (Uf (Uq (Ua b (off+q))) V cap)).run prog w1=.ok (Um s) w1:=fun cap=>by rw [<- y.out];exact Qe0 E (fun i hi=>by rw [Nat.add_assoc];exact o (q+i) oM)
 have N:(0:Int)<=(q:Int):=UI _;have B:(q:Int)<=(q:Int)+(V:Int):=oM;have D:(q:Int)+(V:Int)<=(c:Int):=oM;clear o;by_cases H:q<c
 ·go_wp2_with fail;go_ret3;exact⟨by rw [g.out];rfl,v⟩
 ·have I:c<=q:=oM;have J:∀ad cap,(convert 22 9 (Uf (Uq ad) V cap)).run prog w1=.ok (Um s) w1:=fun ad cap=>by
   obtain rfl:V=0:=oM;rw [<- y.out];exact Qe1 (w:=w1) ad q cap f
  clear Q;go_wp2_with fail;go_ret3;exact⟨by rw [g.out];rfl,v⟩
structure St (w wr:Ur)(v:Value)(l:List Rn):Prop where
 c:wr.cell? (Ua (w.heap.size+2) 0)=Uq v
 r:wr.cell? (Ub w.heap.size)=Uq Ue
 fc:wr.frozen? (Ua (w.heap.size+2) 0)=false
 fr:wr.frozen? (Ub w.heap.size)=false
 o:FR wr (w.heap.size+1) v l
 n:v.ownBlock≠Uq (w.heap.size+2)
 b:Bl w wr
 z:w.heap.size+3<=wr.heap.size
theorem St.bw {wr:Ur}{l:List Rn}(h:St w wr v l)(hb:Bl wr w1):St w w1 v l:=by
 have j:=h.z;exact⟨(hb.cell (p:=(Ua (w.heap.size+2) 0)) (show w.heap.size+2<wr.heap.size by omega)).trans h.c,(hb.cell (p:=(Ub w.heap.size)) (show w.heap.size<wr.heap.size by omega)).trans h.r,
  ((Qc0 hb).2 (w.heap.size+2) 0 oM).trans h.fc,((Qc0 hb).2 w.heap.size 0 oM).trans h.fr,Qdc h.o hb,h.n,h.b.trans (hb.mono oM),Uw j hb.size⟩
theorem St.mid{l:List Rn}(h:St w W v l)(hg:(W.alloc ob).grownBy w7 v.ownBlock):w7.cell? (Ua (w.heap.size+2) 0)=Uq v/\ w7.frozen? (Ua (w.heap.size+2) 0)=false:=by
 have m:Bl W (W.alloc ob):=zO _ _;have j:=h.bw m;have k:=hg.block (w.heap.size+2) (oH j.z) (fun e=>h.n e.symm);exact⟨(US k).trans j.c,(UT k).trans j.fc⟩
theorem St.app{v7:Value}{l:List Rn}{y z:Int}(h:St w W v l)(hown:w7.ownsRow (w.heap.size+1) 89 3 v7 (l.length+1) (Qaf l++[Ud x,Ud y,Ud z]))
  (hg:(W.alloc ob).grownBy w7 v.ownBlock) (hloc:v7.ownBlock=v.ownBlock \/v7.ownBlock=Uq (W.alloc ob).heap.size):St w (w7.setCell (Ua (w.heap.size+2) 0) v7) v7 (l++[(x,y,z)]):=by
 have t:Bl W (W.alloc ob):=zO _ _;have m:=h.bw t;have E:=h.z;have M:=hg.size;have O:=m.z;have u:v7.ownBlock≠Uq (w.heap.size+2):=by
  rcases hloc with e|e
  ·rw [e];exact h.n
  ·rw [e];intro j;injection j with j;simp at j;omega
 have i:Uq w.heap.size≠v.ownBlock:=fun e=>by have:=(World.ownsRow.lt h.o _ e.symm).1;omega
 have q:=hg.block w.heap.size oM i;obtain⟨s,A⟩:=h.mid hg;refine⟨UM _ _ _ s,?_,?_,?_,?_,u,?_,?_⟩
 ·rw [UJ _ _ _ _ oP];exact(US q).trans m.r
 ·rw [UK];exact A
 ·rw [UK];exact(UT q).trans m.fr
 ·unfold FR;rw [QcB,UB];refine World.ownsRow.kept hown (Qa6 w7 (Ua (w.heap.size+2) 0) v7) ?_;cases e:v7.ownBlock with
  | none=>exact .inl rfl
  | some g=>exact .inr (fun j=>u (e.trans j))
 ·refine Below.setCell (p:=(Ua (w.heap.size+2) 0)) (m.b.grown hg oM (fun k hk=>oH ((World.ownsRow.lt h.o k hk).1))) oQ v7
 ·simp [UL];omega
def flG (g:List (Int×List (Int×Int))):List Rn:=g.flatMap fun p=>tag p.1 p.2
theorem QjA:∀(g:List (Int×List (Int×Int))) (b l:Int),okR b l g ->∀p∈g,(0<=p.1/\ p.1<=7)/\ (p.2.length:Int)<=l/\ okS 1 p.2
 | [],_,_,_,_,j=>by simp at j
 | q::g,b,l,h,p,j=>by
  obtain⟨t,k,m,o,r,u,v⟩:=h;rcases List.mem_cons.1 j with rfl|j
  ·exact⟨⟨k,m⟩,r,u⟩
  ·obtain⟨y,i,z⟩:=QjA g _ _ v p j;exact⟨y,oM,z⟩
theorem Qlr (r:Int)(l:List (Int×Int))(p:Int×Int):tag r (l++[p])=tag r l++[(r,p.1,p.2)]:=by simp [tag]
theorem Qna (a:Option Us)(n c x x':Nat)(f:Nat ->Int)(g:List (Int×List (Int×Int)))(w:Ur)(hn:n<=1048576)(hf:Byt f)(hs:Seg w a n f)(F:okR (-1) 1000 g)(hR:Rb f n x (QlC g) x'):
  Cl 94 #[Uf a n c,Ud (x:Int)] w fun e w'=>∃v,e=Ui (Ul #[Uo #[v],Ud (x':Int),Un true])/\ FR w' w.heap.size v (flG g)/\ Bl w w':=by
 obtain⟨i0,hi,H5,H6,H7⟩:=info_parts Tryz.infoRun;obtain⟨W,E⟩:=zE (((w.alloc (Uj #[Ue] 26)).alloc (Uj #[] 89)).alloc (Uj #[Uf (Uq (Ua (w.heap.size+1) 0)) 0 0] 26));have bW:Bl w W:=E▸(Qad _ _ _).alloc oS _;have HZ:Hid (W.heap.size=w.heap.size+3):=E▸hid oP;have Hg:Hid (St w W (Uf (Uq (Ua (w.heap.size+1) 0)) 0 0) []):=by
  have s1:W.cell? (Ua (w.heap.size+2) 0)=Uq (Uf (Uq (Ua (w.heap.size+1) 0)) 0 0):=by rw [<- E,VH _ _ _ _ oP];rfl
  have s2:W.cell? (Ub w.heap.size)=Uq Ue:=by rw [<- E,VI _ _ _ oS,VI _ _ _ oP,VH _ _ _ _ rfl];rfl
  have s3:W.frozen? (Ua (w.heap.size+2) 0)=false:=by rw [<- E,VJ _ _ _ _ oP]
  have s4:W.frozen? (Ub w.heap.size)=false:=by rw [<- E,VK _ _ _ oS,VK _ _ _ oP,VJ _ _ _ _ rfl]
  refine hid ⟨s1,s2,s3,s4,?_,by simp [Value.ownBlock],bW,oH HZ⟩;have q:=VF (base:=w.heap.size+1) (e:=89) (size:=3) (w.alloc (Uj #[Ue] 26)) #[] 0 oP oL rfl;have q':((w.alloc (Uj #[Ue] 26)).alloc (Uj #[] 89)).ownsRow (w.heap.size+1) 89 3 (Uf (Uq (Ua (w.heap.size+1) 0)) 0 0) 0 []:=oU q;rw [<- E];exact World.ownsRow.alloc q' _
 obtain⟨x1,r1,r2⟩:=Rb.app hR;obtain⟨V,hV⟩:=zE g.length;have Ga:V<=8:=by have:=QjB g _ _ F oM oM;omega
 rw [hV] at r1;have HU:=hid (QcZ a n c x x1 V 8 f W hn hf (hs.bw bW) oM oM r1);have B:=hid hs;have HI:=hid r2;have HV:=hid hV;have Hj:=hid (QjA g _ _ F);clear hs bW hR r1 r2 hV F;go_enter func94,ntmps94;go_wp2_with fail;try rw [E]
 clear E;refine HU.mono ?_;rintro e w1 ⟨rfl,b1⟩;have Hh:=hid (Hg.bw b1);clear b1 HU Hg HZ;go_wp2_with fail;go_loopw [9,10,11] (fun av okv iv wr=>∃(k y:Nat) (v:Value) (l:List Rn),k<=V/\ iv=Ud (k:Int)/\ okv=Un true/\ av=Ud (y:Int)/\ l.length<=1000*k/\ Hid (St w wr v l)/\ Hid (l=flG (g.take k)/\ Rb f n y (Qgj (g.drop k)) x')) (fun _ _ iv _=>V - (intOf iv).toNat);case atStart=>exact⟨0,x1,_,[],Ux _,rfl,rfl,rfl,oP,Hh,hid ⟨rfl,HI⟩⟩
 case round=>
  clear Hh;obtain⟨k,y,v,l,F,rfl,rfl,rfl,Gb,h,A⟩:=hrel;by_cases Hr:k<V
  ·obtain⟨⟨r,ls⟩,J,L⟩:=Qd0 (l:=g) (k:=k) (by rw [HV.out];exact Hr);obtain⟨i1,i2⟩:=A.out;rw [J] at i2;obtain⟨⟨H3,H4⟩,Hy,Hf⟩:=Hj (r,ls) (by
    have:(r,ls)∈g.drop k:=(by rw [J];simp);exact List.mem_of_mem_drop this)
   dsimp only at H3 H4 Hy Hf;obtain⟨y3,m,q4⟩:=Rb.app i2;obtain⟨y2,m,I⟩:=Rb.app m;obtain⟨y1,m,s⟩:=Rb.app m;dsimp only at m s I q4;obtain⟨R,rfl⟩:∃R:Nat,r=(R:Int):=⟨r.toNat,oM⟩;rw [show ((R:Int)).toNat=R from by omega] at m;have Hm:=hid (QcZ a n c y y1 R 8 f wr hn hf (B.bw h.b) oM oM m);have N:=hid (And.intro s (And.intro I (And.intro q4 Hf)));have Hl:=hid (And.intro i1 L);clear A i1 i2 m s I q4 J L Hf;go_wp2_with fail;refine Hm.mono ?_;rintro e w2 ⟨rfl,b2⟩;have Hc:=hid (h.bw b2);obtain⟨C,hC⟩:=zE ls.length;have Hn:=hid (QcZ a n c y1 y2 C 1000 f w2 hn hf (B.bw Hc.b) oM oM (hC▸N.1));have S:=hid hC;have H9:C<=1000:=oM;clear b2 Hm h;go_wp2_with fail;refine Hn.mono ?_;rintro e w3 ⟨rfl,b3⟩;have Hi:=hid (Hc.bw b3);clear b3 Hn Hc hC;go_wp2_with fail;go_loopw [9,10,14,15] (fun av okv lv iv wq=>∃(t y:Nat) (v:Value) (i:List Rn) (j:Int),t<=C/\ iv=Ud (t:Int)/\ lv=Ud j/\ okv=Un true/\ av=Ud (y:Int)/\ -1<=j/\ j<=1000000000/\ i.length<=1000*k+t/\ Hid (St w wq v i)/\ Hid (i=l++tag (R:Int) (ls.take t)/\ Rb f n y (QeG (j+2) (ls.drop t)) y3/\ okS (j+2) (ls.drop t))) (fun _ _ _ iv _=>C - (intOf iv).toNat);case atStart=>exact⟨0,y2,v,l, -1,Ux _,rfl,rfl,rfl,rfl,oM,oM,oM,Hi,hid ⟨by simp [tag],N.2.1,N.2.2.2⟩⟩
   case round=>
    clear Hi;obtain⟨t,P,v,i,j,ht,rfl,rfl,rfl,rfl,H0,H1,H2,h,A⟩:=hrel;by_cases Hs:t<C
    ·obtain⟨⟨u,z⟩,J,L⟩:=Qd0 (l:=ls) (k:=t) (by rw [S.out];exact Hs);obtain⟨Q,M,j3⟩:=A.out;rw [J] at M j3;obtain⟨o1,o2,o3,o4⟩:=j3;obtain⟨p2,m,I⟩:=Rb.app M;obtain⟨p1,m,s⟩:=Rb.app m;dsimp only at o1 o2 o3 o4 m s I;obtain⟨G,hG⟩:=zE ((u - (j+2)).toNat:Nat);obtain⟨Z,hZ⟩:=zE ((z - u).toNat:Nat);rw [hG] at m;rw [hZ] at s;have eu:j+2+(G:Int)=u:=oM;have ez:j+2+(G:Int)+(Z:Int)=z:=oM;have Ho:=hid (QcZ a n c P p1 G 1000000000 f wr hn hf (B.bw h.b) oM oM m);have HN:Hid (i++[((R:Int),j+2+(G:Int),j+2+(G:Int)+(Z:Int))]=l++tag (R:Int) (ls.take (t+1))/\ Rb f n p2 (QeG (j+2+(G:Int)+(Z:Int)+2) (ls.drop (t+1))) y3/\ okS (j+2+(G:Int)+(Z:Int)+2) (ls.drop (t+1))):=hid (by
      rw [eu,show u+(Z:Int)=z from by omega];exact⟨by rw [L,Qlr,<- Vg,Q],I,o4⟩)
     have Gc:j+2+(G:Int)+(Z:Int)<=1000000000:=oM;have Hv:=hid s;clear A Q M m s I J L o1 o2 o3 o4 hG hZ eu ez;go_wp2_with fail;refine Ho.mono ?_;rintro e w4 ⟨rfl,b4⟩;have Hd:=hid (h.bw b4);have Hp:=hid (QcZ a n c p1 p2 Z 1000000000 f w4 hn hf (B.bw Hd.b) oM oM Hv);clear b4 Ho h;go_wp2_with fail;refine Hp.mono ?_;rintro e w5 ⟨rfl,b5⟩;have e1:IntKind.i64.wrap (j+2)=j+2:=Qat _ oM oM;have H:IntKind.i64.wrap (j+2+(G:Int))=j+2+(G:Int):=Qat _ oM oM;have e3:IntKind.i64.wrap (j+2+(G:Int)+(Z:Int))=j+2+(G:Int)+(Z:Int):=Qat _ oM oM;have K:=Hd.bw b5;have T:=hid K;have c5:=K.c;have Hx:=K.fc;have z5:=K.z;clear b5 Hp Hd K;go_wp2_with (at_builtin;refine Qar rfl _ _ 24 rfl (w.heap.size+1) 89 i0 _ 3 24 underlying24 hi H5 H6 H7 rfl oD _ _ _ rfl (World.ownsRow.alloc T.o _) (Ub w5.heap.size) 1 1 [Ud (R:Int),Ud (j+2+(G:Int)),Ud (j+2+(G:Int)+(Z:Int))] rfl rfl ?c1 ?c2 ?c3 ?c4 ?c5 ?_);case c1=>exact QaB _ _ _ _ _
     case c2=>intro u hu;simp at hu;rcases hu with rfl|rfl|rfl<;>rfl
     case c3=>unfold maxLen;omega
     case c4=>omega
     case c5=>simp;omega
     intro v7 w7 Ha He Hb;obtain⟨y7,m7,c7,rfl⟩:=Qbs Ha;obtain⟨m,s⟩:=T.mid He;have Hk:=hid (T.app Ha He (oU Hb));have Hq:(i++[((R:Int),j+2+(G:Int),j+2+(G:Int)+(Z:Int))]).length=i.length+1:=oP;have HW:=hid Hq;clear Ha He Hb c5 Hx Hq;go_wp2_with fail;go_roundw;case rel=>exact⟨t+1,p2,_,_,_,Hs,oN,rfl,rfl,rfl,oM,oM,by rw [HW.out];omega,Hk,HN⟩
     case measure=>exact oE
    ·obtain rfl:t=C:=oM;have X:Hid (i=flG (g.take (k+1))/\ P=y3):=hid (by
      obtain⟨Q,M,_⟩:=A.out;have e1:ls.take t=ls:=(by rw [<- S.out];simp);have H:ls.drop t=[]:=(by rw [<- S.out];simp);rw [e1] at Q;rw [H] at M;refine⟨?_,M.nil.symm⟩;rw [Hl.2,Q,Hl.1];simp [flG])
     have Hz:i.length<=1000*(k+1):=oM;have Hu:Hid (i=flG (g.take (k+1))/\ Rb f n P (Qgj (g.drop (k+1))) x'):=hid ⟨X.1,by rw [X.2];exact N.2.2.1⟩;clear A;go_wp2_with fail;go_roundw;case rel=>exact⟨k+1,P,v,i,Hr,oN,rfl,rfl,Hz,h,Hu⟩
     case measure=>exact oE
  ·obtain rfl:k=V:=oM;have X:Hid (l=flG g/\ y=x'):=hid (by
    obtain⟨Q,M⟩:=A.out;rw [<- HV.out,Vn] at Q;rw [<- HV.out,List.drop_length] at M;exact⟨Q,M.nil.symm⟩)
   obtain⟨Y,U,O,rfl⟩:=Qbs h.o;have c5:=h.c;have r5:=h.r;have H8:=h.fr;clear A;go_wp2_with fail;have k4:=UM wr (Ub w.heap.size) (Uf Y U O) r5;have HF:Hid (FR (wr.setCell (Ub w.heap.size) (Uf Y U O)) w.heap.size (Uf Y U O) l):=by
    have D:=h.o;have h2:FR wr w.heap.size (Uf Y U O) l:=by
     obtain⟨m,s⟩:=D;refine⟨m,s.imp id ?_⟩;rintro⟨g',cap,Hw,e,hg,r⟩;exact⟨g',cap,Hw,e,oM,r⟩
    refine hid (World.ownsRow.kept h2 (Qa6 wr (Ub w.heap.size) (Uf Y U O)) ?_);cases e:(Value.slice Y U O).ownBlock with
    | none=>exact .inl rfl
    | some t=>exact .inr (fun H=>by have h3:=(World.ownsRow.lt D t e).1;injection H with H;have H:t=w.heap.size:=H;omega)
   have Ht:=hid (h.b.setCell (p:=(Ub w.heap.size)) zL (Uf Y U O));refine zF (v:=Ul #[Uo #[Uf Y U O],Ud (y:Int),Un true]) (by simp [results,results94,go_sem,k4]) ?_;obtain⟨D,h2⟩:=X.out;exact⟨_,by rw [h2],D▸HF.out,Ht⟩
variable {EX : Nat -> Option Value}
theorem QjN{x:Nat}{g:List (Int×List (Int×Int))}{D0:DataW Value}{G0:Int ->Value}(h:Cu EX w cb a n c f x)(U:okR (-1) 1000 g)(hR:Rb f n x (QlC g) x')
  (hsb:∀y,a=Uq y ->y.block<w0.heap.size) (hc0:cb<w0.heap.size) (hbm:w0.heap.size<=bm) (hg0:w0.grownBy w (Uq cb)) (hG:QcK w bm 0 D0 G0 (fun _=>[])) (hGb:∀r g,(G0 r).ownBlock=Uq g ->w0.heap.size<=g):
  Cl 154 #[Uk (Uc cb),.map (Uq bm)] w fun e w'=>e=Ui .nilIface/\ w0.grownBy w' (Uq cb)/\ Cu EX w' cb a n c f x'/\∃(nn:Nat) (D:DataW Value) (G:Int ->Value),QcK w' bm nn D G (lkS g)/\∀r g,(G r).ownBlock=Uq g ->w0.heap.size<=g:=by
 obtain⟨y0,r1,r2⟩:=hR.app;have He:=QjB g _ _ U oM oM;have J:=hid (QbN (most:=8) h oM oM r1);obtain⟨V,N⟩:=zE g.length;rw [N] at J He;have K:=hid N;have Hv:=hid h;have HR:=hid (And.intro U r2);have F:=hid hg0;have R:=hid hG;have P:=hid hGb;have Hp:=hid hsb;have Hy:=hG.own.lt;clear h U hR r1 r2 hg0 hG hGb N hsb;go_enter func154,ntmps154;go_wp2_with fail;refine J.mono ?_;rintro e w1 ⟨rfl,L,cu⟩;have HG:=hid (Qan F L);have HC:=hid cu;have S:=hid (R.gr (row:=Uq cb) L (fun e=>oI e) (fun r g hg e=>by injection e with e;have:=P r g hg;omega));clear L cu J R F;go_wp2_with fail;go_loopw [7,8,22] (fun lv bv iv wr=>∃(k y:Nat) (u o:Int) (D:DataW Value) (G:Int ->Value),k<=V/\ iv=Ud (k:Int)/\ lv=Ud u/\ bv=Ud o/\ -1<=o/\ o<=7/\ 0<=u/\ u<=1000/\
  Hid (QcK wr bm k D G (lkS (g.take k)))/\ Hid (∀r g,(G r).ownBlock=Uq g ->w0.heap.size<=g)/\ Hid (Cu EX wr cb a n c f y)/\ Hid (w0.grownBy wr (Uq cb))/\ bm<wr.heap.size/\ Hid (okR o u (g.drop k)/\ Rb f n y (Qgj (g.drop k)) x')) (fun _ _ iv _=>V - (intOf iv).toNat)
 case atStart=>exact⟨0,y0,1000, -1,D0,G0,Ux _,rfl,rfl,rfl,oM,oM,oM,oM,S,P,HC,HG,S.own.lt,HR⟩
 case round=>
  obtain⟨k,y,u,o,D,G,U,rfl,rfl,rfl,Hw,Hx,H0,Ht,O,X,M,Q,Hz,Z⟩:=hrel;have zr:=Q.size;by_cases Hi:k<V
  ·obtain⟨p,hp,ht⟩:=Qd0 (l:=g) (k:=k) (by rw [K.out];exact Hi);obtain⟨Hj,Y⟩:=Z.out;rw [hp] at Hj Y;obtain⟨o1,o2,o3,H,o5,B,C⟩:=Hj;obtain⟨r,l⟩:=p;dsimp only at o1 o2 o3 H o5 B C;obtain⟨x2,q1,q2⟩:=(show Rb f n y ((uvF 9 r.toNat++(uvF 9 l.length++QeG 1 l))++Qgj (g.drop (k+1))) x' from by
    have e:Qgj ((r,l)::g.drop (k+1))=uvF 9 r.toNat++uvF 9 l.length++QeG 1 l++Qgj (g.drop (k+1)):=rfl;rw [e] at Y;simpa only [Vg] using Y).app
   have W:=hid (Qlf M o1 o2 o3 o5 Ht H B q1);have I:=hid (And.intro C (And.intro q2 ht));have Hn:=hid H;obtain⟨c0,c1,c2,_⟩:=M.cur;clear q1 q2 B C H hp ht Y Z;go_wp2_with fail;refine W.mono ?_;rintro e w2 ⟨v,⟨rfl,E,Hg⟩,s⟩;have z2:=E.size;have T:=hid (O.gr (row:=Uq cb) E (fun e=>oI e) (fun r g hg e=>by injection e with e;have:=X r g hg;omega));have m:=hid Hg;have Hl:=hid (Qan Q E);have Hb:=QdF s;have Hf:Hid (∀q,v.ownBlock=Uq q ->w0.heap.size<=q):=hid fun q hq=>Uw zr (World.ownsRow.lt s q hq).1;obtain⟨A,nv,i,z⟩:=Qbs s;have Hu:nv=l.length:=by
    rcases s.2 with ⟨e,e0⟩|⟨g',cap,Hh,e,_⟩
    ·rw [e] at z;injection z with _ e1 _;omega
    ·rw [e] at z;injection z with _ e1 _;omega
   subst Hu;have Hd:keyOf prog 3 (Ud r)=Uq (kI r):=keyOf_int_mk underlying3 (wfI oM oM);have e3:IntKind.i64.wrap (u - (l.length:Int))=u - (l.length:Int):=Qat _ oM oM;have Hc:Hid (w2.ownsRow 0 226 2 (Uf A l.length i) l.length (Qak l)):=z▸hid Hb;have Hq:Hid (∀q,(Value.slice A l.length i).ownBlock=Uq q ->w0.heap.size<=q):=z▸Hf;subst z;have Ho:=hid T.own;clear E Hg W c0 c1 c2 O M Q s Hb Hf;go_wp2_with (at_mapUpdate;refine wpList_mapUpdate_own _ rfl _ _ _ 126 rfl 3 182 (int_keyed underlying3) underlying126 Qc5 bm _ _ rfl Ho oL _ _ _ rfl rfl Hd (.held (Uf A l.length i)) [] rfl ?_;intro w3 Ha b;go_frame);go_roundw;case rel=>
    have Hs:Uq cb≠Uq bm:=fun e=>oI e;have Hr:=b.block cb m.lt Hs;have Hm:=Hl.andThen b (fun j hj=> .inl (oI hj));refine⟨k+1,x2,u - (l.length:Int),r,D.put (kI r) (.held (Uf A l.length i)),upd G r (Uf A l.length i),Hi,oN,rfl,rfl,oM,oM,oM,oM,?_,?_,hid ⟨m.cur.at' Hr,m.seg.grown b (fun y hy=>oH (Hp y hy)),m.ab,m.hn,m.nc,m.cc,m.byt⟩,hid Hm,?_,hid ⟨I.1,I.2.1⟩⟩
    ·rw [I.2.2,QkR];exact hid (T.step Hc Hn Ha b)
    ·refine hid fun q t hq=> ?_;by_cases e:q=r
     ·subst e;rw [Qaq] at hq;exact Hq t hq
     ·rw [Qai _ _ e] at hq;exact X q t hq
    ·have:=b.size;omega
   case measure=>exact oE
  ·obtain rfl:k=V:=oM;have hd:g.drop k=[]:=(by rw [<- K.out];simp);have Hk:g.take k=g:=(by rw [<- K.out];simp);have HX:Hid (x'=y):=hid (by have:=Z.2;rw [hd] at this;exact this.nil);rw [Hk] at O;clear Z hd Hk;go_wp2_with fail;go_ret;exact⟨rfl,Q,by rw [HX.out];exact M,k,D,G,O,X⟩
theorem QaH.toR{D:DataW Value}{G:Int ->Value}(h:QaH w bm n D G L):QcK w bm n D G L:=⟨h.own,h.at',h.has',fun r=>QdF (h.rows r)⟩
theorem Qqr{x:Nat}{g:List (Int×List (Int×Int))}(h:Cu EX w cb a n c f x)(hk:okR (-1) 1000 g)(hR:Rb f n x (QlC g) x')(hsb:∀y,a=Uq y ->y.block<w.heap.size):
  Cl 131 #[Uk (Uc cb)] w fun e w'=>∃(bm q:Nat) (D:DataW Value) (G:Int ->Value),CuP EX w cb a n c f x' (Ul #[.map (Uq bm),.nilIface]) e w'/\ QcK w' bm q D G (lkS g)/\ w.heap.size<=bm/\∀r g,(G r).ownBlock=Uq g ->w.heap.size<=g:=by
 have b:=@run_makeMap prog;obtain⟨W,k⟩:=zE (w.alloc (.map #[] 0));have m:Bl w W:=k▸zO _ _;have u:Hid (QcK W w.heap.size 0 (.map []) (fun _=> Ue) (fun _=>[])):=k▸hid (Qfz w).toR;have v:=hid (QjN (h.bw m) hk hR hsb h.lt zL (Qa7 (Qbe w (Uq cb)) m) u (fun r g hg=>by cases hg));obtain⟨p,s,A,_⟩:=h.cur;clear h hR u m hk hsb;go_enter func131,ntmps131;go_wp2_with fail;try rw [k]
 clear k b;refine v.mono ?_;rintro e w1 ⟨rfl,t,z,q,D,G,i,o⟩;have j:=hid (And.intro t (And.intro z (And.intro i o)));clear t z i o v;go_wp2_with fail;go_ret2;exact⟨_,q,D,G,⟨rfl,j.1,j.2.1⟩,j.2.2.1,Uv _,j.2.2.2⟩
def Qn7:Int ->List (Int×Int) ->Int
 | least,[]=>least
 | _,p::l=>Qn7 (p.2+2) l
theorem Qjc (l:List (Int×Int))(p:Int×Int):∀j,Qn7 j (l++[p])=p.2+2:=by
 induction l with
 | nil=>intro j;rfl
 | cons q l ih=>intro j;exact ih _
theorem Qjb (l:List (Int×Int))(p:Int×Int):∀j,QeG j (l++[p])=QeG j l++(uvF 9 (p.1 - Qn7 j l).toNat++uvF 9 (p.2 - p.1).toNat):=by
 induction l with
 | nil=>intro j;simp [QeG,Qn7]
 | cons q l ih=>
  intro j;show uvF 9 _++uvF 9 _++QeG _ (l++[p])=(uvF 9 _++uvF 9 _++QeG _ l)++_;rw [ih];simp only [Vg];rfl
theorem Qg9 {α:Type}(l:List α)(d:α)(h:k<l.length):l.take (k+1)=l.take k++[l.getD k d]:=by
 rw [Vl];simp [UA,h]
theorem QjR (l:List (Int×Int)):∀k,k<=l.length ->spK l k=QeG 1 (l.take k)/\ loK l k=Qn7 1 (l.take k)
 | 0,_=>by simp [spK,QeG,loK,Qn7]
 | k+1,h=>by
  obtain⟨j,m⟩:=QjR l k oM;rw [Qg9 l (0,0) oM,Qjb,Qjc];refine⟨?_,rfl⟩;simp only [spK];rw [j,m];rfl
theorem Qk8 (l:List (Int×Int)):Qko l=uvF 9 l.length++QeG 1 l:=by
 unfold Qko;rw [(QjR l l.length zL).1,Vn]
theorem Qk5 (g g':List (Int×List (Int×Int))):Qgj (g++g')=Qgj g++Qgj g':=by
 induction g with
 | nil=>rfl
 | cons p g ih=>
  show uvF 9 _++uvF 9 _++QeG 1 _++Qgj (g++g')=(uvF 9 _++uvF 9 _++QeG 1 _++Qgj g)++Qgj g';rw [ih];simp only [Vg]
theorem Qib (L:Int ->List (Int×Int))(ks:List Int):∀k,k<=ks.length ->QfV L ks k=Qgj ((ks.take k).map fun r=>(r,L r))
 | 0,_=>by simp [QfV,Qgj]
 | k+1,h=>by
  rw [Qg9 ks 0 oM,UC,Qk5,<- Qib L ks k oM];simp only [QfV,Qny,Qk8,UD,Vr,Qgj,List.append_nil,Vg]
def Qkp (L:Int ->List (Int×Int)):List (Int×List (Int×Int)):=(KS L 8).map fun r=>(r,L r)
theorem Qlc (L:Int ->List (Int×Int)):Qet L=QlC (Qkp L):=by
 unfold Qet QlC;rw [Qib L (KS L 8) _ zL,Vn];simp [Qkp]
theorem QjT:∀(l:List (Int×Int)) (least:Int),Srt l ->(∀p∈l,least<=p.1) ->okS least l
 | [],_,_,_=>trivial
 | q::l,least,h,h1=>by
  have j:=h.2 q Vc;obtain⟨k,m⟩:=List.pairwise_cons.1 h.1;exact⟨h1 q Vc,j.2.1,j.2.2,QjT l _ ⟨m,fun p hp=>h.2 p (Ve _ hp)⟩ (fun p hp=>oH (k p hp))⟩
theorem QlV (L:Int ->List (Int×Int)):∀(ks:List Int) (before left:Int),ks.Pairwise (fun x y=>x<y) ->(∀r∈ks,before<r/\ 0<=r/\ r<=7/\ L r≠[]/\ Srt (L r)) ->((ks.flatMap fun r=>tag r (L r)).length:Int)<=left ->okR before left (ks.map fun r=>(r,L r))
 | [],_,_,_,_,_=>trivial
 | k::ks,before,left,hp,ha,hl=>by
  obtain⟨g,t⟩:=List.pairwise_cons.1 hp;obtain⟨m,q,u,v,j⟩:=ha k Vc;rw [Vs,UB] at hl;have o:(tag k (L k)).length=(L k).length:=by simp [tag]
  refine⟨m,q,u,v,by show (((L k).length:Nat):Int)<=left;omega,QjT _ _ j (fun p hp=>(j.2 p hp).1),QlV L ks k _ t (fun r hr=> ?_) ?_⟩
  ·obtain⟨_,z,b3,b4,h⟩:=ha r (Ve _ hr);exact⟨g r hr,z,b3,b4,h⟩
  ·show _<=left - (((L k).length:Nat):Int);omega
theorem Qgm (L:Int ->List (Int×Int)):∀(ks:List Int) (M:Int ->List (Int×Int)) (r:Int),(ks.map fun r=>(r,L r)).foldl (fun L p=>upd L p.1 p.2) M r=if r∈ks then L r else M r
 | [],M,r=>oP
 | k::ks,M,r=>by
  rw [UD,Vf,Qgm L ks];by_cases h:r∈ks
  ·rw [if_pos h,if_pos (Ve _ h)]
  ·rw [if_neg h];by_cases e:r=k
   ·subst e;rw [if_pos Vc];exact Qaq _ _ _
   ·rw [if_neg (fun h2=>by rcases List.mem_cons.1 h2 with j|j;exact e j;exact h j)];exact Qai _ _ e
theorem QlA(h:QcS R F T n=true):okR (-1) 1000 (Qkp (Lk R F T n))/\ QlC (Qkp (Lk R F T n))=Qet (Lk R F T n)/\ lkS (Qkp (Lk R F T n))=Lk R F T n/\ Qdt (Lk R F T n) 8=flat R F T n/\ (∀r,Srt (Lk R F T n r))/\ (∀r,Lk R F T n r≠[] ->0<=r/\ r<8)/\∀r,(Lk R F T n r).length<=1000:=by
 obtain⟨j,y⟩:=Qal.1 h;have k:∀r,Srt (Lk R F T n r):=fun r=>(QbZ n j r).1;have m:Qdt (Lk R F T n) 8=flat R F T n:=by
  refine uniq (QfB k 8 zL).1 (Qbh n j) (fun r x=> ?_);rw [QdT,(QfB k 8 zL).2.1];constructor
  ·rintro⟨_,_,v⟩;exact v
  ·intro hi;have:=QcM n j r (fun e=>by rw [e] at hi;exact QiD hi);exact⟨oM,oM,hi⟩
 refine⟨QlV _ _ _ _ (Qks _ 8) (fun r hr=> ?_) ?_,(Qlc _).symm,?_,m,k,fun r hr=>QcM n j r hr,fun r=>Uw (Qbx R F T n r) oM⟩
 ·obtain⟨z,g,u⟩:=(Qdz _ 8 r).1 hr;exact⟨oM,oM,oM,(fun e=>by rw [e] at u;cases u),k r⟩
 ·have:(Qdt (Lk R F T n) 8).length=n:=by rw [m];simp [flat]
  unfold Qdt at this;omega
 ·funext r;have e:=Qgm (Lk R F T n) (KS (Lk R F T n) 8) (fun _=>[]) r;refine Eq.trans e ?_;split
  ·rfl
  ·rename_i hm;rw [Qdz] at hm;cases e:Lk R F T n r with
   | nil=>rfl
   | cons q t=>
    have:=QcM n j r (by rw [e];simp);exact absurd ⟨this.1,oM,by rw [e];rfl⟩ hm
theorem QdJ (w:Ur):(zeroValue 124).run prog w=.ok (Qbl Up) w:=oK
theorem QfS (w:Ur):(zeroValue 169).run prog w=.ok (Qb8 Up) w:=oK
structure PB (w:Ur)(h:Nat)(x:Nat×Nat)(r q:Int)(s:ByteArray):Prop where
 n:Bx2 w h (.map (Uq x.1)) (.map (Uq x.2))
 d:Bx2 w (h+1) (Ud r) (Ud q)
 m:Bx1 w (h+2) (Um s)
theorem PB.bw{x:Nat×Nat}(p:PB w h x r q s)(hb:Bl w w'):PB w' h x r q s:=⟨p.n.bw hb p.n.lt,p.d.bw hb p.d.lt,p.m.bw hb p.m.lt⟩
theorem PB.gt{x:Nat×Nat}(p:PB w h x r q s)(hb:Gt B w w'):PB w' h x r q s:=⟨p.n.gt hb,p.d.gt hb,p.m.gt hb⟩
theorem PB.set{x:Nat×Nat}(p:PB w h x r q s)(y:Nat×Nat):PB ((w.setCell (Ub h) (.map (Uq y.1))).setCell (Ua h 1) (.map (Uq y.2))) h y r q s:=
 ⟨p.n.set _ _,(p.d.setAt _ _ oP).setAt _ _ oP,(p.m.setAt _ _ oP).setAt _ _ oP⟩
theorem PB.setAt{x:Nat×Nat}(p:PB w h x r q s)(a:Us)(u:Value)(ha:h+2<a.block):PB (w.setCell a u) h x r q s:=
 ⟨p.n.setAt _ _ oM,p.d.setAt _ _ oM,p.m.setAt _ _ oM⟩
theorem QqK (X:Nat)(p:List ByteArray)(a:Option Us)(cp:Nat)(k:Int)(r q:Int)(s:ByteArray)(B c:Nat)(N:List Ky ->Option (Nat×Nat))(M:List Ky ->Dt ->Option ByteArray)(x0:Nat×Nat)(w:Ur)
  (hp:p.length<=1048576) (hs:∀i,(gS p i).size<=1048576) (hk:(Lit.int Uh k).wf=true) (hr:(Lit.int Uh r).wf=true) (hq:(Lit.int Uh q).wf=true) (hc:c<=1073741824) (hB:B<=w.heap.size) (h:QaP w a p) (hT:Tre w B N M c) (h0:N []=Uq x0) (hX:X<w.heap.size) (hXN:∀z x,N z=Uq x ->x.1≠X/\ x.2≠X):
  Cl 98 #[Uo #[.map (Uq x0.1),.map (Uq x0.2)],Uf a p.length cp,Ud k,Uo #[Ud r,Ud q],Uo #[Um s]] w fun e w'=>e=Ui (Ul #[])/\ Gt B w w'/\ w'.heap[X]? =w.heap[X]? /\
   ∃N',Tre w' B N' (Qkq M (Qac p k) (r,q) s) (c+p.length+1)/\ N' []=Uq x0/\∀z,(N' z).isSome=true↔(N z).isSome=true \/z <+:Qac p k:=by
 obtain⟨W,hW⟩:=zE (((w.alloc (Uj #[.map (Uq x0.1),.map (Uq x0.2)] 124)).alloc (Uj #[Ud r,Ud q] 83)).alloc (Uj #[Um s] 169));have b0:Bl w W:=hW▸((zO _ _).alloc oP _).alloc oS _;have P0:PB W w.heap.size x0 r q s:=by
  have d1:=Bx2.made (w.alloc (Uj #[.map (Uq x0.1),.map (Uq x0.2)] 124)) (Ud r) (Ud q) 83;have m1:=Bx1.made ((w.alloc (Uj #[.map (Uq x0.1),.map (Uq x0.2)] 124)).alloc (Uj #[Ud r,Ud q] 83)) (Um s) 169;rw [<- hW];exact⟨((Bx2.made w _ _ _).allocs _).allocs _,by simpa using d1.allocs _,by simpa using m1⟩
 have Gd:Hid (W.heap[X]? =w.heap[X]?):=hid (b0.block X hX);have Hd:=hid hXN;have Gf:=hid hX;have HS:=hid h;have Ga:=hid P0;have Gc:=hid (hT.bw b0);have H9:=hid (Gt.of_below (B:=B) b0);have H0:=hid h0;have HB:=hid hB;have Hs:=hid hs;clear h hT h0 b0 P0 hs hB hX hXN;go_enter func98,ntmps98;go_wp2_with fail;try rw [hW]
 clear hW;go_loopw [16] (fun i wr=>∃j:Nat,j<=p.length/\ i=Ud j/\ Hid (Gt B w wr)/\ (∃g x,Hid (Tre wr B g M (c+j))/\ Hid (g []=Uq x0)/\ Hid (g ((Qac p k).take j)=Uq x)/\ Hid (∀z,(g z).isSome=true↔(N z).isSome=true \/z <+:(Qac p k).take j)/\ Hid (PB wr w.heap.size x r q s)/\ Hid (wr.heap[X]? =w.heap[X]?)/\ Hid (∀z x,g z=Uq x ->x.1≠X/\ x.2≠X))) (fun i _=>p.length - (intOf i).toNat);case atStart=>
  refine⟨0,Ux _,rfl,H9,N,x0,Gc,H0,hid (oU H0),hid (fun z=> ?_),Ga,Gd,Hd⟩;simp only [List.take_zero,List.prefix_nil];exact⟨fun h=> .inl h,fun h=>h.elim id (fun e=>by rw [e,H0.out];rfl)⟩
 case round=>
  clear Gc H9 Ga Gd Hd;obtain⟨j,hj,rfl,H,g,x,Y,Hy,E,R,I,HX,Ho⟩:=hrel;have H5:Hid (X<wr.heap.size):=hid (Ut Gf H.size);have Hp:Hid (w.heap.size≠X):=hid (oH Gf);by_cases Hq:j<p.length
  ·have i1:(0:Int)<=(j:Int):=UI _;have i2:(j:Int)<(p.length:Int):=oM;have Hj:=hid (QkI p a cp k j wr hp Hq (HS.gt H));obtain⟨nm,t,F⟩:∃nm t,Qav p k j=(nm,t):=⟨_,_,rfl⟩;have Hw:=hid F;rw [F] at Hj;obtain⟨G,He⟩:∃G,keyOf prog 174 (Qa9 (nm,t))=Uq G:=by
    unfold Qav at F;have e1:=(Prod.mk.inj F).1;have e2:=(Prod.mk.inj F).2;refine QhM ?_ ?_
    ·rw [<- e1];have:=Hs j;unfold maxLen;omega
    ·rw [<- e2];split
     ·decide
     ·exact hk
   have Hi:=hid He;clear F He;dsimp only [Qa9] at Hj;go_wp2_with fail;refine Hj.mono ?_;rintro e w1 ⟨rfl,b1⟩;obtain⟨u,H8⟩:=zE (w1.alloc (Uj #[Um nm,Ud t] 174));have C:Bl wr u:=H8▸b1.alloc b1.size _;have Hu:Bx2 u w1.heap.size (Um nm) (Ud t):=H8▸Bx2.made _ _ _ _;have Hl:=I.bw C;have Hn:=hid (Y.bw C);have Hr:=hid (H.keep C);have Ge:Hid (u.heap[X]? =w.heap[X]?):=hid ((C.block X H5).trans HX);have Hb:Hid (X<u.heap.size):=hid (Ut H5 C.size);have e0:=Hl.n.c0;obtain⟨e1,e2⟩:=Hu.q2;have H1:=hid Hl;have Hv:=hid Hu;have Gm:Hid (w.heap.size+2<u.heap.size):=hid Hl.m.lt;have Hf:=(Hn.kids _ x E).look_ok (mt:=121) Qa1 underlying121 (QdJ u) Hi;clear Hu Hl b1 C Hj Y H I;dsimp only [Qa9] at Hf;have Gi:(Qac p k).take (j+1)=(Qac p k).take j++[(nm,t)]:=(by rw [Qdy Hq];have:=Hw.out;unfold Qav at this;rw [this]);have Hm:=hid Gi;clear Gi;cases hNy:g ((Qac p k).take j++[(nm,t)]) with
   | some y=>
    rw [hNy] at Hf;dsimp only [Qbl,Option.isSome] at Hf;have Hk:=hid hNy;clear hNy;obtain⟨O,Z⟩:=zE (u.alloc (Uj #[.map (Uq y.1),.map (Uq y.2)] 124));have b3:Bl u O:=Z▸zO _ _;have T:Bx2 O u.heap.size (.map (Uq y.1)) (.map (Uq y.2)):=Z▸Bx2.made _ _ _ _;obtain⟨g0,g1⟩:=T.q2;have L:=H1.bw b3;obtain⟨n0,n1⟩:=L.n.q2;have f0:=L.n.f 0;have f1:=L.n.f 1;have J:=hid ((Hn.bw b3).set (q:=(Ub w.heap.size)) (.map (Uq y.1)) n0);have Gn:=hid (J.set (q:=(Ua w.heap.size 1)) (.map (Uq y.2)) ((L.n.set0 _).c1));have Hh:=hid (((Hr.keep b3).set (Ub w.heap.size) (.map (Uq y.1)) zL).set (Ua w.heap.size 1) (.map (Uq y.2)) zL);have Gl:=hid (L.set y);have Gq:Hid (((O.setCell (Ub w.heap.size) (.map (Uq y.1))).setCell (Ua w.heap.size 1) (.map (Uq y.2))).heap[X]? =w.heap[X]?):=hid (by
     rw [zH _ _ _ _ (by exact Hp.symm),zH _ _ _ _ (by exact Hp.symm)];exact(b3.block X Hb).trans Ge)
    clear b3 T L J;go_wp2_with fail;go_roundw;case rel=>
     refine⟨j+1,Hq,oN,Hh,g,y,hid (Gn.mono oM),Hy,hid (by rw [Hm.out];exact Hk),hid (fun z=> ?_),Gl,Gq,Ho⟩;rw [R z,Qio Hm.out];constructor
     ·rintro(e|e)
      ·exact .inl e
      ·exact .inr (.inl e)
     ·rintro(e|e|e)
      ·exact .inl e
      ·exact .inr e
      ·exact(R z).1 (by rw [e,Hk.out];rfl)
    case measure=>exact oE
   | none=>
    rw [hNy] at Hf;dsimp only [Qbl,Option.isSome] at Hf;have Hk:=hid hNy;clear hNy;obtain⟨O,Z⟩:=zE (u.alloc (Uj #[.map Up,.map Up] 124));have b3:Bl u O:=Z▸zO _ _;have T:Bx2 O u.heap.size (.map Up) (.map Up):=Z▸Bx2.made _ _ _ _;have S:=hid T;have Ha:=hid (Hv.bw b3 Hv.lt);have Hz:=hid (H1.bw b3);have J:=hid (Hn.bw b3);have Hh:=hid (Hr.keep b3);have Gv:=hid b3.size;have Gp:Hid (O.heap[X]? =w.heap[X]?):=hid ((b3.block X Hb).trans Ge);have Hc:Hid (X<O.heap.size):=hid (Ut Hb b3.size);have Go:=hid Z;clear b3 T H1 Hn Hr Hv Z;go_wp2_with fail;rw [Go.out];refine(Qel O).mono ?_;rintro e w4 ⟨A,o,rfl,Gs,Gw,Gx,m1,m2,b4⟩;have K:=S.bw b4 S.lt;obtain⟨g0,g1⟩:=K.q2;have h0:=K.f 0;have h1:=K.f 1;obtain⟨Q,V⟩:=zE ((w4.setCell (Ub u.heap.size) (.map (Uq A))).setCell (Ua u.heap.size 1) (.map (Uq o)));have Gz:w1.heap.size<O.heap.size:=Ha.lt;have Gy:=Hz.m.lt;have Hg:u.heap.size≠w1.heap.size:=H8▸oP;have H6:PB Q w.heap.size x r q s/\ w.heap.size+2<u.heap.size:=by
     have hz:w.heap.size+2<u.heap.size:=Gm.out;rw [<- V];exact⟨((Hz.bw b4).setAt _ _ hz).setAt _ _ hz,hz⟩
    have K5:Bx2 Q u.heap.size (.map (Uq A)) (.map (Uq o)):=V▸K.set _ _;have Y5:Bx2 Q w1.heap.size (Um nm) (Ud t):=V▸((Ha.bw b4 Ha.lt).setAt _ _ Hg).setAt _ _ Hg;have T5:Tre Q B g M (c+j):=V▸((J.bw b4).set _ g0).set _ (K.set0 _).c1;have G5:Gt B w Q:=V▸((Hh.keep b4).set _ _ oQ).set _ _ oQ;have X5:Q.heap[X]? =w.heap[X]? :=by
     have Gk:X≠u.heap.size:=oH Hb;rw [<- V,zH _ _ _ _ Gk,zH _ _ _ _ Gk];exact(b4.block X Hc).trans Gp
    have Gu:w4.heap.size=Q.heap.size:=(by rw [<- V];simp [UL]);have H4:Hid (∀z x,QbX g ((Qac p k).take j++[(nm,t)]) (Uq (A,o)) z=Uq x ->x.1≠X/\ x.2≠X):=hid (fun z y hy=>by
     have h3:=Hc.out;by_cases D:z=(Qac p k).take j++[(nm,t)]
     ·rw [D,Qaw] at hy;injection hy with hy;subst hy;exact⟨oQ,by show o≠X;omega⟩
     ·rw [Qam _ _ D] at hy;exact Ho z y hy)
    have Gg:A≠u.heap.size:=(by intro e;have:=S.lt;omega);have Gh:o≠u.heap.size:=(by intro e;have:=S.lt;omega);have M1:Qa0 Q 174 (α:=Ky) Qa9 Qbl A 0 (fun _=>Up):=V▸(m1.same (zH _ _ _ _ Gg)).same (zH _ _ _ _ Gg);have M2:Qa0 Q 83 (α:=Dt) dtV Qb8 o 0 (fun _=>Up):=V▸(m2.same (zH _ _ _ _ Gh)).same (zH _ _ _ _ Gh);have c1:=H6.1.n.c0;obtain⟨c2,c3⟩:=Y5.q2;obtain⟨c4,c5⟩:=K5.q2;have HU:Hid (∀v,Qa0 v 174 Qa9 Qbl x.1 (c+j+1) (QbX (fun z=>g ((Qac p k).take j++[z])) (nm,t) (Uq (A,o))) ->Q.grownBy v (Uq x.1) ->Tre v B (QbX g ((Qac p k).take j++[(nm,t)]) (Uq (A,o))) M (c+j+1)/\ Gt B w v/\ PB v w.heap.size x r q s/\ Bx2 v u.heap.size (.map (Uq A)) (.map (Uq o))/\ v.heap[X]? =w.heap[X]?):=hid (fun v U b=>by
     have Gr:=(T5.lo _ x E).1;have H7:=Gt.grown b Gr (T5.kids _ x E).obj;refine⟨T5.add E Hk M1 M2 Gs (fun q z hz=> ?_) ⟨oH HB,by have:=HB.out;omega⟩ U b,G5.trans H7,H6.1.gt H7,K5.gt H7,(b.block X (oJ Hc b4.size) (fun e=>(Ho _ x E).1 (Option.some.inj e).symm)).trans X5⟩;have:=J.lt hz;exact⟨oM,oM,oM,oM⟩)
    have Hx:=hid (T5.kids _ x E);clear H6 X5 Gu K5 Y5 T5 G5 M1 M2 m1 m2 b4 K S Ha Hz J Hh;go_wp2_with (refine Qax _ rfl _ _ _ 121 rfl 174 124 Qa1 Qa9 (fun _ _=>Qb7) underlying121 Qbl x.1 (c+j) (fun z=>g ((Qac p k).take j++[z])) rfl Hx oL (nm,t) (A,o) G rfl rfl Hi ?_;intro v U b;obtain⟨T6,P,P6,K6,X6⟩:=HU v U b;have H3:=hid X6;clear X6;have H2:=hid T6;have Ht:=hid P;have Gb:=hid P6;obtain⟨t0,t1⟩:=P6.n.q2;have t2:=P6.n.f 0;have t3:=P6.n.f 1;obtain⟨t4,t5⟩:=K6.q2;clear U b T6 P P6 K6);go_roundw;case rel=>
     have T7:=(H2.set (q:=(Ub w.heap.size)) (.map (Uq A)) t0).set (q:=(Ua w.heap.size 1)) (.map (Uq o)) (Gb.n.set0 _).c1;refine⟨j+1,Hq,oN,hid ((Ht.set _ _ zL).set _ _ zL),QbX g ((Qac p k).take j++[(nm,t)]) (Uq (A,o)),(A,o),hid T7,hid ?_,hid ?_,hid (fun z=> ?_),hid (Gb.set (A,o)),hid ?_,H4⟩
     ·rw [Qam _ _ oP];exact Hy
     ·rw [Hm.out,Qaw]
     ·rw [Qio Hm.out];by_cases D:z=(Qac p k).take j++[(nm,t)]
      ·rw [D,Qaw];exact⟨fun _=> .inr (.inr rfl),fun _=>rfl⟩
      ·rw [Qam _ _ D,R.out z];constructor
       ·rintro(h|h)
        ·exact .inl h
        ·exact .inr (.inl h)
       ·rintro(h|h|h)
        ·exact .inl h
        ·exact .inr h
        ·exact absurd h D
     ·rw [zH _ _ _ _ (by exact Hp.symm),zH _ _ _ _ (by exact Hp.symm)];exact H3
    case measure=>exact oE
  ·obtain rfl:j=p.length:=oM;have Gj:(Qac p k).take p.length=Qac p k:=Vp (by rw [QaM];exact Uv _);rw [Gj] at E R;obtain⟨G,He⟩:∃G,keyOf prog 83 (dtV (r,q))=Uq G:=QdP hr hq;have Hi:=hid He;have c0:=I.n.c1;obtain⟨c1,c2⟩:=I.d.q2;have c3:=I.m.c0;have Hx:=hid (Y.marks _ x E);have HU:Hid (∀v,Qa0 v 83 dtV Qb8 x.2 (c+p.length+1) (QbX (M (Qac p k)) (r,q) (Uq s)) ->wr.grownBy v (Uq x.2) ->Tre v B g (Qkq M (Qac p k) (r,q) s) (c+p.length+1)/\ Gt B w v/\ v.heap[X]? =w.heap[X]?):=hid (fun v U b=>
     ⟨Y.mark E U b,H.trans (Gt.grown b (Y.lo _ x E).2 (Y.marks _ x E).obj),(b.block X H5 (fun e=>(Ho _ x E).2 (Option.some.inj e).symm)).trans HX⟩)
   clear Gj He Y H I;go_wp2_with (refine Qax _ rfl _ _ _ 122 rfl 83 169 Qau dtV (fun _ _=>QcA) underlying122 Qb8 x.2 (c+p.length) (M (Qac p k)) rfl Hx oL (r,q) s G rfl rfl Hi ?_;intro v U b;obtain⟨T6,P,X6⟩:=HU v U b;have H3:=hid X6;clear X6;have H2:=hid T6;have Ht:=hid P;clear U b T6 P);go_end0;exact⟨rfl,Ht,H3,g,H2,Hy,R⟩
theorem Qfn (a a':Option Us)(c c':Nat)(p p':List ByteArray)(fl fl':Bool)(r q r' q':Int)(v v':ByteArray)(w:Ur)(hn:p.length<=1048576)(hn':p'.length<=1048576)(h:QaP w a p)(h':QaP w a' p'):
  Cl 141 #[Uo #[Uf a p.length c,Un fl,Ud r,Ud q,Um v],Uo #[Uf a' p'.length c',Un fl',Ud r',Ud q',Um v']] w (Rt w (Ud (QaL ⟨p,fl,r,q,v⟩ ⟨p',fl',r',q',v'⟩))):=by
 obtain⟨W,m⟩:=zE ((w.alloc (Uj #[Uf a p.length c,Un fl,Ud r,Ud q,Um v] 85)).alloc (Uj #[Uf a' p'.length c',Un fl',Ud r',Ud q',Um v'] 85));have g:Bl w W:=m▸Qad _ _ _;have B:W.heap.size=w.heap.size+2:=m▸oP;have V:W.cell? (Ub w.heap.size)=Uq (Uf a p.length c):=m▸oP;have Y:W.cell? (Ua w.heap.size 1)=Uq (Un fl):=m▸oP;have Z:W.cell? (Ua w.heap.size 2)=Uq (Ud r):=m▸oP;have G:W.cell? (Ua w.heap.size 3)=Uq (Ud q):=m▸oP;have H:W.cell? (Ua w.heap.size 4)=Uq (Um v):=m▸oP;have I:W.cell? (Ua (w.heap.size+1) 0)=Uq (Uf a' p'.length c'):=m▸oP;have J:W.cell? (Ua (w.heap.size+1) 1)=Uq (Un fl'):=m▸oP;have L:W.cell? (Ua (w.heap.size+1) 2)=Uq (Ud r'):=m▸oP;have N:W.cell? (Ua (w.heap.size+1) 3)=Uq (Ud q'):=m▸oP;have X:W.cell? (Ua (w.heap.size+1) 4)=Uq (Um v'):=m▸oP;have o:=hid g;have y:w.heap.size<W.heap.size:=oM;have z:w.heap.size+1<W.heap.size:=oM;have Q:=hid (h.bw g);have U:=hid (h'.bw g);clear g B h h';go_enter func141,ntmps141;go_wp2_with fail;try rw [m]
 clear m;have t:∀w',Bl W w' ->(Bl W w'/\ w'.cell? (Ub w.heap.size)=Uq (Uf a p.length c)/\ w'.cell? (Ua w.heap.size 1)=Uq (Un fl)/\ w'.cell? (Ua w.heap.size 2)=Uq (Ud r)/\ w'.cell? (Ua w.heap.size 3)=Uq (Ud q)/\ w'.cell? (Ua w.heap.size 4)=Uq (Um v)/\ w'.cell? (Ua (w.heap.size+1) 0)=Uq (Uf a' p'.length c')/\ w'.cell? (Ua (w.heap.size+1) 1)=Uq (Un fl')/\ w'.cell? (Ua (w.heap.size+1) 2)=Uq (Ud r')/\ w'.cell? (Ua (w.heap.size+1) 3)=Uq (Ud q')/\ w'.cell? (Ua (w.heap.size+1) 4)=Uq (Um v')):=fun w' k=>⟨k,(k.cell (p:=(Ub w.heap.size)) y).trans V,(k.cell (p:=(Ua w.heap.size 1)) y).trans Y,(k.cell (p:=(Ua w.heap.size 2)) y).trans Z,(k.cell (p:=(Ua w.heap.size 3)) y).trans G,(k.cell (p:=(Ua w.heap.size 4)) y).trans H,(k.cell (p:=(Ua (w.heap.size+1) 0)) z).trans I,(k.cell (p:=(Ua (w.heap.size+1) 1)) z).trans J,(k.cell (p:=(Ua (w.heap.size+1) 2)) z).trans L,(k.cell (p:=(Ua (w.heap.size+1) 3)) z).trans N,(k.cell (p:=(Ua (w.heap.size+1) 4)) z).trans X⟩;have u:=hid t;clear t;refine zS u (fun qh=> ?_);refine tZ 0 5 ?_;refine tZ 1 6 ?_;refine tZ 2 7 ?_;refine tZ 3 8 ?_;refine tZ 5 10 ?_;refine tZ 7 12 ?_;refine tZ 10 15 ?_;refine tZ 11 16 ?_;refine tZ 12 17 ?_;refine tZ 13 18 ?_;refine cZ 4 ?_;intro K j;go_simp;refine(QmA p p' a a' c c' _ hn hn' (Q.bw qh.1) (U.bw qh.1)).mono ?_;rintro e w1 ⟨rfl,rfl⟩;refine j.out _ _ qh (fun qh=> ?_);clear j K;try simp only [zP]
 refine cZ 6 ?_;intro K j;go_simp;refine(Qf6 _ fl _ _ _ _).mono ?_;rintro e C ⟨rfl,b⟩;have A:=qh.1.trans (b.mono qh.1.size);refine j.out _ _ (u _ A) (fun qh=> ?_);clear j K;try simp only [zP]
 refine cZ 8 ?_;intro K j;go_simp;refine(Qf6 _ fl' _ _ _ _).mono ?_;rintro e D ⟨rfl,b3⟩;have E:=qh.1.trans (b3.mono qh.1.size);refine j.out _ _ (u _ E) (fun qh=> ?_);clear j K;try simp only [zP]
 refine cZ 9 ?_;intro K j;go_simp;refine(Qcd (kd fl) (kd fl') _).mono ?_;rintro e F ⟨rfl,rfl⟩;refine j.out _ _ qh (fun qh=> ?_);clear j K;try simp only [zP]
 refine cZ 14 ?_;intro K j;go_simp;refine(QdO r q r' q' _).mono ?_;rintro e P ⟨rfl,s⟩;have M:=qh.1.trans (s.mono qh.1.size);refine j.out _ _ (u _ M) (fun qh=> ?_);clear j K;try simp only [zP]
 refine cZ 15 ?_;intro K j;go_simp;have k:=qh.1.alloc qh.1.size (Uj #[Ud (QaC p p'),Ud (QaZ (kd fl) (kd fl')),Ud (Qkv r q r' q')] 3);refine j.out _ _ (u _ k) (fun qh=> ?_);clear j K;try simp only [zP]
 refine cZ 16 ?_;intro K j;go_simp;refine(QiR _ 3 3 (fun i=>if i=0 then QaC p p' else if i=1 then QaZ (kd fl) (kd fl') else Qkv r q r' q') _ oM (fun i hi=> ?_)).mono ?_
 ·match i,hi with
  | 0,_=>simp
  | 1,_=>simp
  | 2,_=>simp
 rintro e R ⟨rfl,rfl⟩;refine j.out _ _ qh (fun qh=> ?_);clear j K;try simp only [zP]
 refine tZ 17 4 ?_;refine zD ?_;have O:=hid (o.trans (qh.1.mono o.size));clear qh k M E A s b3 b;go_wp2_with fail;go_ret;exact⟨QbF nz3,O⟩
theorem Qly {P:Prop} [Decidable P]:yes P=decide P:=by
 by_cases h:P
 ·rw [Qaj h,decide_eq_true h]
 ·rw [Qag h,decide_eq_false h]
theorem Qfi {y:Int}:QaZ x y<0↔x<y:=by unfold QaZ;split<;>(try split)<;>omega
theorem QeC {y:Int}:QaZ x y=0↔x=y:=by unfold QaZ;split<;>(try split)<;>omega
theorem Qq8 {p p':List ByteArray}{fl fl':Bool}{r q r' q':Int}{v v':ByteArray}:
  (QaC p p'≠0 ->yes (QaL ⟨p,fl,r,q,v⟩ ⟨p',fl',r',q',v'⟩<0)=decide (QaC p p'<0))/\
  (QaC p p'=0 ->fl≠fl' ->yes (QaL ⟨p,fl,r,q,v⟩ ⟨p',fl',r',q',v'⟩<0)=fl')/\
  (QaC p p'=0 ->fl=fl' ->r≠r' ->yes (QaL ⟨p,fl,r,q,v⟩ ⟨p',fl',r',q',v'⟩<0)=decide (r<r'))/\
  (QaC p p'=0 ->fl=fl' ->r=r' ->yes (QaL ⟨p,fl,r,q,v⟩ ⟨p',fl',r',q',v'⟩<0)=decide (q<q')):=by
 refine⟨fun h=> ?_,fun h hf=> ?_,fun h hf hr=> ?_,fun h hf hr=> ?_⟩
 ·rw [Qly];simp only [QaL,orI,if_neg h]
 ·have e:QaL ⟨p,fl,r,q,v⟩ ⟨p',fl',r',q',v'⟩=QaZ (kd fl) (kd fl'):=by
   have:QaZ (kd fl) (kd fl')≠0:=(by rw [Ne,QeC];cases fl<;>cases fl'<;>simp_all [kd]);simp only [QaL,orI,if_pos h,if_neg this]
  rw [e,Qly];cases fl<;>cases fl'<;>simp_all [kd,QaZ]
 ·have e:QaL ⟨p,fl,r,q,v⟩ ⟨p',fl',r',q',v'⟩=QaZ r r':=by
   have j:QaZ (kd fl) (kd fl')=0:=(by rw [QeC,hf]);have k:QaZ r r'≠0:=(by rw [Ne,QeC];exact hr);simp only [QaL,orI,if_pos h,if_pos j,Qkv,if_neg k]
  rw [e,Qly];exact decide_eq_decide.2 Qfi
 ·have e:QaL ⟨p,fl,r,q,v⟩ ⟨p',fl',r',q',v'⟩=QaZ q q':=by
   have j:QaZ (kd fl) (kd fl')=0:=(by rw [QeC,hf]);have k:QaZ r r'=0:=(by rw [QeC];exact hr);simp only [QaL,orI,if_pos h,if_pos j,Qkv,if_pos k]
  rw [e,Qly];exact decide_eq_decide.2 Qfi
theorem QhP (a a':Option Us)(c c':Nat)(p p':List ByteArray)(fl fl':Bool)(r q r' q':Int)(v v':ByteArray)(w:Ur)(hn:p.length<=1048576)(hn':p'.length<=1048576)(hc:p.length<=c)(hc':p'.length<=c')(M:c<=9223372036854775807)(hx':c'<=9223372036854775807)(h:QaP w a p)(h':QaP w a' p'):
  Cl 51 #[Uo #[Uf a p.length c,Un fl,Ud r,Ud q,Um v],Uo #[Uf a' p'.length c',Un fl',Ud r',Ud q',Um v']] w (Rt w (Un (yes (QaL ⟨p,fl,r,q,v⟩ ⟨p',fl',r',q',v'⟩<0)))):=by
 obtain⟨W,j⟩:=zE ((w.alloc (Uj #[Uf a p.length c,Un fl,Ud r,Ud q,Um v] 85)).alloc (Uj #[Uf a' p'.length c',Un fl',Ud r',Ud q',Um v'] 85));have A:Bl w W:=j▸Qad _ _ _;have zW:W.heap.size=w.heap.size+2:=j▸oP;have D:W.cell? (Ub w.heap.size)=Uq (Uf a p.length c):=j▸oP;have H:W.cell? (Ua w.heap.size 1)=Uq (Un fl):=j▸oP;have I:W.cell? (Ua w.heap.size 2)=Uq (Ud r):=j▸oP;have J:W.cell? (Ua w.heap.size 3)=Uq (Ud q):=j▸oP;have F:W.cell? (Ua w.heap.size 4)=Uq (Um v):=j▸oP;have P:W.cell? (Ua (w.heap.size+1) 0)=Uq (Uf a' p'.length c'):=j▸oP;have K:W.cell? (Ua (w.heap.size+1) 1)=Uq (Un fl'):=j▸oP;have L:W.cell? (Ua (w.heap.size+1) 2)=Uq (Ud r'):=j▸oP;have N:W.cell? (Ua (w.heap.size+1) 3)=Uq (Ud q'):=j▸oP;have R:W.cell? (Ua (w.heap.size+1) 4)=Uq (Um v'):=j▸oP;have i:=hid A;have S:w.heap.size<W.heap.size:=oM;have T:w.heap.size+1<W.heap.size:=oM;have O:=hid (Qdj p p' a a' c c' W hc hc' M hx' (h.bw A) (h'.bw A));obtain⟨U,V,Y,Z⟩:=@Qq8 p p' fl fl' r q r' q' v v';have u:=hid U;have y:=hid V;have z:=hid Y;have g:=hid Z;obtain⟨B,Q⟩:=zE (yes (QaL ⟨p,fl,r,q,v⟩ ⟨p',fl',r',q',v'⟩<0));obtain⟨x,M⟩:=zE (QaC p p');rw [Q] at u y z g;rw [M] at u y z g O;rw [Q];clear A zW h h' U V Y Z Q M;go_enter func51,ntmps51;go_wp2_with fail;try rw [j]
 clear j;refine O.mono ?_;rintro e w1 ⟨rfl,k,m⟩;have Ha:w1.cell? (Ua w.heap.size 1)=Uq (Un fl):=by rw [m];exact H
 have Hb:w1.cell? (Ua w.heap.size 2)=Uq (Ud r):=by rw [m];exact I
 have Hc:w1.cell? (Ua w.heap.size 3)=Uq (Ud q):=by rw [m];exact J
 have Hd:w1.cell? (Ua (w.heap.size+1) 1)=Uq (Un fl'):=by rw [m];exact K
 have He:w1.cell? (Ua (w.heap.size+1) 2)=Uq (Ud r'):=by rw [m];exact L
 have Hf:w1.cell? (Ua (w.heap.size+1) 3)=Uq (Ud q'):=by rw [m];exact N
 have s:Hid (Bl w w1):=hid (by rw [m];exact⟨i.os,i.tape,i.output,i.size,i.block⟩);clear m D H I J F P K L N R O S T i;by_cases b:x=0
 ·have X:(x !=0)=false:=by simp [b]
  by_cases o:fl=fl'
  ·have G:(fl !=fl')=false:=(by simp [o]);by_cases E:r=r'
   ·have C:(r !=r')=false:=(by simp [E]);have t:=hid (g b o E);clear u y z g;go_wp2_with fail;go_ret;exact⟨Qaz t.symm,s⟩
   ·have C:(r !=r')=true:=oU E;have t:=hid (z b o E);clear u y z g;go_wp2_with fail;go_ret;exact⟨Qaz t.symm,s⟩
  ·have G:(fl !=fl')=true:=oU o;have t:=hid (y b o);clear u y z g G;cases fl<;>cases fl'<;>first
    | exact absurd rfl o
    | (clear o;go_wp2_with fail;go_ret;exact⟨Qaz t.symm,s⟩)
 ·have X:(x !=0)=true:=oU b;have t:=hid (u b);clear u y z g;go_wp2_with fail;go_ret;exact⟨Qaz t.symm,s⟩
theorem Bx5.set2(h:Bx5 w b v0 v1 v2 v3 v4)(u:Value):Bx5 (w.setCell (Ua b 2) u) b v0 v1 u v3 v4:=
 ⟨by simp [UN,h.c0],by simp [UN,h.c1],UM _ _ _ h.c2,by simp [UN,h.c3],by simp [UN,h.c4],fun i=>by rw [UK];exact h.f i,by simp [UL];exact h.lt⟩
theorem Bx5.set3(h:Bx5 w b v0 v1 v2 v3 v4)(u:Value):Bx5 (w.setCell (Ua b 3) u) b v0 v1 v2 u v4:=
 ⟨by simp [UN,h.c0],by simp [UN,h.c1],by simp [UN,h.c2],UM _ _ _ h.c3,by simp [UN,h.c4],fun i=>by rw [UK];exact h.f i,by simp [UL];exact h.lt⟩
theorem Bx5.set4(h:Bx5 w b v0 v1 v2 v3 v4)(u:Value):Bx5 (w.setCell (Ua b 4) u) b v0 v1 v2 v3 u:=
 ⟨by simp [UN,h.c0],by simp [UN,h.c1],by simp [UN,h.c2],by simp [UN,h.c3],UM _ _ _ h.c4,fun i=>by rw [UK];exact h.f i,by simp [UL];exact h.lt⟩
def QbT (R F T:Nat ->Int)(n:Nat)(l:List Lf)(k:Nat):Prop:=∀i,i<k ->Qcz (gL l i)/\ Qb6 R F T (gL l i).r (gL l i).q (gL l i).q n=true/\ (0<i ->QaL (gL l (i - 1)) (gL l i)<0)
def Dif (x y:Lf):Prop:=¬(x.r=y.r/\ x.q=y.q)
def Dis (l:List Lf)(k:Nat):Prop:=∀i,i<k ->∀j,j<i ->Dif (gL l j) (gL l i)
def Qba (R F T:Nat ->Int)(n:Nat)(l:List Lf):Prop:=QcS R F T n=true/\ l.length<=1000/\ QbT R F T n l l.length/\ Dis l l.length
theorem QbT.step{l:List Lf}(h:QbT R F T n l k)(h1:Qcz (gL l k))(h2:Qb6 R F T (gL l k).r (gL l k).q (gL l k).q n=true)(h3:0<k ->QaL (gL l (k - 1)) (gL l k)<0):QbT R F T n l (k+1):=fun i hi=>by
 by_cases e:i=k
 ·subst e;exact⟨h1,h2,h3⟩
 ·exact h i oM
theorem Dis.step {l:List Lf}(h:Dis l k)(h1:∀j,j<k ->Dif (gL l j) (gL l k)):Dis l (k+1):=fun i hi j hj=>by
 by_cases e:i=k
 ·subst e;exact h1 j hj
 ·exact h i oM j hj
theorem Qay{a:Ur}(h:Below B a w)(n:Nat):Below B a (w.drewN n):=⟨h.os,h.tape,h.output,h.size,h.block⟩
theorem Qb3 (a:Option Us)(c:Nat)(l:List Lf)(x:Option Us)(n d:Nat)(R F T:Nat ->Int)(w:Ur)(hn:l.length<=1048576)(hp:LBd l)(hm:n<=1048576)(h:QbY w a l)(h':QaT w x n R F T):
  Cl 29 #[Uo #[Uf a l.length c,Uf x n d]] w (Rt w (Un (yes (Qba R F T n l)))):=by
 obtain⟨W,hW⟩:=zE (w.alloc (Uj #[Uf a l.length c,Uf x n d] 28));have b0:Bl w W:=hW▸zO _ _;have zW:w.heap.size<W.heap.size:=hW▸oP;have k0:W.cell? (Ub w.heap.size)=Uq (Uf a l.length c):=hW▸oP;have k1:W.cell? (Ua w.heap.size 1)=Uq (Uf x n d):=hW▸oP;have HC:=hid (Qg4 x n d R F T W hm (h'.bw b0));have HL:=hid (h.bw b0);have HR:=hid (h'.bw b0);have Hk:=hid b0;clear h h' b0;obtain⟨Y,hY⟩:=zE (yes (Qba R F T n l));have HY:=hid hY;rw [hY];clear hY;go_enter func29,ntmps29;go_wp2_with fail;try rw [hW]
 clear hW;refine HC.mono ?_;rintro e w1 ⟨rfl,b1⟩;have m0:=(b1.cell (p:=(Ub w.heap.size)) zW).trans k0;have m1:=(b1.cell (p:=(Ua w.heap.size 1)) zW).trans k1;have g:=hid (Hk.trans (b1.mono Hk.size));have H8:=hid (HL.bw b1);have H9:=hid (HR.bw b1);have z1:w.heap.size<w1.heap.size:=Ut zW b1.size;clear HC HL HR Hk k0 k1 zW b1;obtain⟨C,hC⟩:=zE (QcS R F T n);have HC:=hid hC;rw [hC];clear hC;cases C with
 | false=>
  have M:Hid (Y=false):=hid (by rw [<- HY.out];exact Qag (fun h=>by have:=h.1;rw [HC.out] at this;cases this));go_wp2_with fail;go_ret;exact⟨Qaz M.symm,g⟩
 | true=>
  by_cases Hf:(1000:Int)<(l.length:Int)
  ·have d0:decide ((1000:Int)<(l.length:Int))=true:=oU Hf;have M:Hid (Y=false):=hid (by rw [<- HY.out];exact Qag (fun h=>oH h.2.1));go_wp2_with fail;go_ret;exact⟨Qaz M.symm,g⟩
  ·have d0:decide ((1000:Int)<(l.length:Int))=false:=oU Hf;go_wp2_with fail;clear d0;go_loopw [3] (fun i wr=>∃k:Nat,k<=l.length/\ i=Ud k/\ Hid (Bl w1 wr)/\ Hid (QbT R F T n l k/\ Dis l k)) (fun i _=>l.length - (intOf i).toNat);case atStart=>exact⟨0,Ux _,rfl,hid zI,hid ⟨fun i hi=>oM,fun i hi=>oM⟩⟩
   case round=>
    obtain⟨k,hk,rfl,z,HI⟩:=hrel;have r0:=(z.cell (p:=(Ub w.heap.size)) z1).trans m0;have r1:=(z.cell (p:=(Ua w.heap.size 1)) z1).trans m1;by_cases Hi:k<l.length
    ·rcases H8.out with h|⟨b,off,rfl,X,hc⟩
     ·omega
     obtain⟨pa,pc,⟨c0,cp,cq⟩,s,c1,L,N,c4⟩:=hc k Hi;have x0:=(z.cell (p:=(Ua b (off+k*5))) X).trans c0;have x1:=(z.cell (p:=(Ua b (off+k*5+1))) X).trans c1;have x2:=(z.cell (p:=(Ua b (off+k*5+2))) X).trans L;have x3:=(z.cell (p:=(Ua b (off+k*5+3))) X).trans N;have x4:=(z.cell (p:=(Ua b (off+k*5+4))) X).trans c4;have HS:=hid (s.bw z);have i1:(0:Int)<=(k:Int):=UI _;have i2:(k:Int)<(l.length:Int):=oM;have H:=hid hc;have zr:w1.heap.size<=wr.heap.size:=z.size;clear hc c0 c1 L N c4 s m0 m1;go_upto_region 7 with fail;obtain⟨y,hy⟩:=zE (gL l k);have Hj:=hp k;rw [hy] at HS x0 x1 x2 x3 x4 cp Hj ⊢;have S:=hid hy;clear hy;obtain⟨p,fl,r,q,v⟩:=y;dsimp only at HS x0 x1 x2 x3 x4 cp Hj ⊢;obtain⟨W2,Hh⟩:=zE (wr.alloc (Uj #[Uf pa p.length pc,Un fl,Ud r,Ud q,Um v] 85));have b2:Bl wr W2:=Hh▸zO _ _;have B5:Bx5 W2 wr.heap.size (Uf pa p.length pc) (Un fl) (Ud r) (Ud q) (Um v):=(by rw [<- Hh];exact⟨oP,oP,oP,oP,oP,fun i=>oP,oP⟩);have B:=(b2.cell (p:=(Ub w.heap.size)) (show w.heap.size<wr.heap.size by omega)).trans r0;have t1:=(b2.cell (p:=(Ua w.heap.size 1)) (show w.heap.size<wr.heap.size by omega)).trans r1;obtain⟨y0,y1,y2,y3,y4⟩:=B5.q5;have Hb:=hid (z.trans (b2.mono z.size));have Hq:=hid (HS.bw b2);have HP:=hid (QfC p pa pc W2 Hj Hq);have HA:=hid (QmZ x n d R F T r q W2 hm (H9.bw Hb));have z2:wr.heap.size<W2.heap.size:=B5.lt;have u:=hid B5;rw [Hh];clear Hh b2 B5 x0 x1 x2 x3 x4 r0 r1 HS z;have H6:=hid (g.trans (Hb.mono g.size));have V:Hid (¬(Qcz ⟨p,fl,r,q,v⟩/\ Qb6 R F T r q q n=true/\ (0<k ->QaL (gL l (k - 1)) ⟨p,fl,r,q,v⟩<0)) ->Y=false):=hid (fun no=>by
      rw [<- HY.out];exact Qag (fun h=>no (by have:=h.2.2.1 k Hi;rw [S.out] at this;exact this)))
     go_cut [54] from 16 to 81 (fun v5 wx=>∃A:Bool,v5=Un (!A)/\ Hid (A=true↔Qcz ⟨p,fl,r,q,v⟩/\ Qb6 R F T r q q n=true)/\ Hid (Bl W2 wx));case first=>
      go_wp2_with fail;refine HP.mono ?_;rintro e w3 ⟨rfl,rfl⟩;obtain⟨Y1,Hv⟩:=zE (yes (Qbb p));have Hr:=hid Hv;rw [Hv];clear Hv HP V;cases Y1 with
      | false=>
       go_wp2_with fail;go_meet;exact⟨false,rfl,hid ⟨fun h=>(by cases h),fun h=>(by have:=Qaj h.1.1;rw [Hr.out] at this;cases this)⟩,hid zI⟩
      | true=>
       by_cases hv:(200:Int)<(v.size:Int)
       ·have d1:decide ((200:Int)<(v.size:Int))=true:=oU hv;go_wp2_with fail;go_meet;exact⟨false,rfl,hid ⟨fun h=>(by cases h),fun h=>(by have:v.size<=200:=h.1.2.1;omega)⟩,hid zI⟩
       ·have d1:decide ((200:Int)<(v.size:Int))=false:=oU hv;by_cases Ha:fl=true/\ v.toList.isEmpty=false
        ·obtain⟨rfl,Ha⟩:=Ha;go_wp2_with fail;go_meet;exact⟨false,rfl,hid ⟨fun h=>(by cases h),fun h=>(by have:v.toList.isEmpty=true:=h.1.2.2 rfl;rw [Ha] at this;cases this)⟩,hid zI⟩
        ·have he:fl=true ->v.toList.isEmpty=true:=fun e=>by
          by_cases h:v.toList.isEmpty=true
          ·exact h
          ·exact absurd ⟨e,oU h⟩ Ha
         have Hg:Hid (Qcz ⟨p,fl,r,q,v⟩):=hid ⟨QcJ.1 Hr,oQ,he⟩;clear Ha Hr;cases fl with
         | true=>
          have he:=he rfl;go_wp2_with fail;refine HA.mono ?_;rintro e Q ⟨rfl,b4⟩;have E:=hid b4;clear b4;go_wp2_with fail;go_meet;exact⟨_,rfl,hid ⟨fun h=>⟨Hg,h⟩,fun h=>h.2⟩,E⟩
         | false=>
          clear he;go_wp2_with fail;refine HA.mono ?_;rintro e Q ⟨rfl,b4⟩;have E:=hid b4;clear b4;go_wp2_with fail;go_meet;exact⟨_,rfl,hid ⟨fun h=>⟨Hg,h⟩,fun h=>h.2⟩,E⟩
     case rest=>
      obtain⟨A,rfl,Z,m⟩:=hcut;obtain⟨Q,rfl⟩:∃Q,Q=wc:=⟨_,rfl⟩;have zt:w.heap.size<Q.heap.size:=oH m.size;have U:wr.heap.size<Q.heap.size:=oH m.size;have B4:=u.bw m z2;have B:=(m.cell (p:=(Ub w.heap.size)) (show w.heap.size<W2.heap.size by omega)).trans B;obtain⟨y0,y1,y2,y3,y4⟩:=B4.q5;have E:=hid (Hb.trans (m.mono Hb.size));have H5:=hid (Hq.bw m);have Hc:=hid (g.trans (E.mono g.size));clear B4 u Hq H6 m HP HA t1 Hb z2;cases A with
      | false=>
       have M:=hid (V (fun h=>by have:=Z.2 ⟨h.1,h.2.1⟩;cases this));clear V H;go_wp2_with fail;go_ret;exact⟨Qaz M.symm,Hc⟩
      | true=>
       have Hg:=hid (Z.1 rfl).1;have Hn:=hid (Z.1 rfl).2;clear Z;go_upto_region 9 with fail;go_cut [67] from 16 to 81 (fun v5 wx=>∃A:Bool,v5=Un (!A)/\ Hid (A=true↔(0<k ->QaL (gL l (k - 1)) ⟨p,fl,r,q,v⟩<0))/\ Hid (Bl Q wx));case first=>
        by_cases Gd:k=0
        ·have d2:decide ((0:Int)<(k:Int))=false:=oS;have d3:decide (0<k)=false:=oS;go_quiet (fail);go_wp2_with fail;go_meet;exact⟨true,rfl,hid ⟨fun _ h=>oM,fun _=>rfl⟩,hid (Qay zI _)⟩
        ·obtain⟨j,hj⟩:∃j,k=j+1:=⟨k - 1,oM⟩;obtain⟨H1,H2,⟨c0,Hs,Gc⟩,s',c1,L,N,c4⟩:=H j oM;have O:=fun(o:Nat)=>E.cell (p:=(Ua b o)) X;have j0:=(O _).trans c0;have j1:=(O _).trans c1;have j2:=(O _).trans L;have j3:=(O _).trans N;have j4:=(O _).trans c4;have Hp:=hid (s'.bw E);have Hx:=hp j;obtain⟨y',Hz⟩:=zE (gL l j);rw [Hz] at j0 j1 j2 j3 j4 Hp Hx Hs;have Hd:=hid Hz;obtain⟨p',He,r',O,v'⟩:=y';dsimp only at j0 j1 j2 j3 j4 Hp Hx Hs;have zb:b<Q.heap.size:=oH E.size;have d2:decide ((0:Int)<(k:Int))=true:=oS;have d3:decide (0<k)=true:=oS;have Hy:(k:Int) - 1=(j:Int):=oM;have Ge:IntKind.i64.wrap (j:Int)=(j:Int):=(by rw [VP];omega);have Gf:IntKind.i64.wrap ((k:Int) - 1)=(j:Int):=(by rw [Hy];exact Ge);have q1:(0:Int)<=(j:Int):=UI _;have q2:(j:Int)<(l.length:Int):=oM;have H3:=hid hj;obtain⟨Bf,Hu⟩:=zE (yes (QaL ⟨p',He,r',O,v'⟩ ⟨p,fl,r,q,v⟩<0));have H7:=hid Hu;have H4:Hid (∀W,Bl Q W ->Cl 51 #[Uo #[Uf H1 p'.length H2,Un He,Ud r',Ud O,Um v'],Uo #[Uf pa p.length pc,Un fl,Ud r,Ud q,Um v]] W (Rt W (Un Bf))):=hid (fun W hB=>Hu▸QhP H1 pa H2 pc p' p He fl r' O r q v' v W Hx Hj Hs cp Gc cq (Hp.bw hB) (H5.bw hB));clear Hu hj Gd c0 c1 L N c4 s' Hz;have Hm:Hid (∀w',Bl Q w' ->(Bl Q w'/\ w'.cell? (Ub w.heap.size)=Uq (Uf (Uq (Ua b off)) l.length c)/\ w'.cell? (Ub wr.heap.size)=Uq (Uf pa p.length pc)/\ w'.cell? (Ua wr.heap.size 1)=Uq (Un fl)/\ w'.cell? (Ua wr.heap.size 2)=Uq (Ud r)/\ w'.cell? (Ua wr.heap.size 3)=Uq (Ud q)/\ w'.cell? (Ua wr.heap.size 4)=Uq (Um v)/\ w'.cell? (Ua b (off+j*5))=Uq (Uf H1 p'.length H2)/\ w'.cell? (Ua b (off+j*5+1))=Uq (Un He)/\ w'.cell? (Ua b (off+j*5+2))=Uq (Ud r')/\ w'.cell? (Ua b (off+j*5+3))=Uq (Ud O)/\ w'.cell? (Ua b (off+j*5+4))=Uq (Um v'))):=hid (fun w' hB=>⟨hB,(hB.cell (p:=(Ub w.heap.size)) zt).trans B,(hB.cell (p:=(Ub wr.heap.size)) U).trans y0,(hB.cell (p:=(Ua wr.heap.size 1)) U).trans y1,(hB.cell (p:=(Ua wr.heap.size 2)) U).trans y2,(hB.cell (p:=(Ua wr.heap.size 3)) U).trans y3,(hB.cell (p:=(Ua wr.heap.size 4)) U).trans y4,(hB.cell (p:=(Ua b (off+j*5))) zb).trans j0,(hB.cell (p:=(Ua b (off+j*5+1))) zb).trans j1,(hB.cell (p:=(Ua b (off+j*5+2))) zb).trans j2,(hB.cell (p:=(Ua b (off+j*5+3))) zb).trans j3,(hB.cell (p:=(Ua b (off+j*5+4))) zb).trans j4⟩);refine zS Hm (fun qh=> ?_);refine tZ 0 55 ?_;refine tZ 1 56 ?_;refine tZ 2 57 ?_;refine tZ 3 58 ?_;refine tZ 4 59 ?_;refine tZ 5 60 ?_;refine tZ 6 61 ?_;refine tZ 7 62 ?_;refine tZ 8 63 ?_;refine tZ 9 64 ?_;refine cZ 10 ?_;intro K hK;go_simp;refine(H4 _ qh.1).mono ?_;rintro e D ⟨rfl,b5⟩;have Ht:=qh.1.trans (b5.mono qh.1.size);refine hK.out _ _ (Hm _ Ht) (fun qh=> ?_);clear hK K;try simp only [zP]
         refine tZ 11 66 ?_;refine tZ 12 67 ?_;refine zD ?_;have u:=hid Ht;have Z:Hid (Bf=true↔(0<k ->QaL (gL l (k - 1)) ⟨p,fl,r,q,v⟩<0)):=hid (by
          have e:gL l (k - 1)=⟨p',He,r',O,v'⟩:=(by rw [show k - 1=j by have:=H3.out;omega,Hd.out]);rw [e,<- H7.out,QcJ];exact⟨fun h _=>h,fun h=>h (oH H3)⟩)
         clear qh Ht b5 Hm H4 V H;go_wp2_with fail;go_meet;exact⟨Bf,rfl,Z,u⟩
       case rest=>
        obtain⟨A,rfl,Z,m⟩:=hcut;obtain⟨D,rfl⟩:∃D,D=wc:=⟨_,rfl⟩;have u:=hid (E.trans (m.mono E.size));have B:=(m.cell (p:=(Ub w.heap.size)) zt).trans B;have y2:=(m.cell (p:=(Ua wr.heap.size 2)) U).trans y2;have y3:=(m.cell (p:=(Ua wr.heap.size 3)) U).trans y3;have zt:w.heap.size<D.heap.size:=Ut zt m.size;have U:wr.heap.size<D.heap.size:=Ut U m.size;clear m y0 y1 y4 H5 E Hc;cases A with
        | false=>
         have M:=hid (V (fun h=>by have:=Z.2 h.2.2;cases this));have HZ:=hid (g.trans (u.mono g.size));clear V H;go_wp2_with fail;go_ret;exact⟨Qaz M.symm,HZ⟩
        | true=>
         have Ho:Hid (0<k ->QaL (gL l (k - 1)) ⟨p,fl,r,q,v⟩<0):=hid (Z.1 rfl);have Ga:Hid (∀wi,Bl D wi ->wi.cell? (Ua wr.heap.size 2)=Uq (Ud r)):=hid (fun wi h=>(h.cell (p:=(Ua wr.heap.size 2)) U).trans y2);have Gb:Hid (∀wi,Bl D wi ->wi.cell? (Ua wr.heap.size 3)=Uq (Ud q)):=hid (fun wi h=>(h.cell (p:=(Ua wr.heap.size 3)) U).trans y3);go_wp2_with fail;go_loopw [5] (fun i wi=>∃j:Nat,j<=k/\ i=Ud j/\ Hid (Bl D wi)/\ Hid (∀t,t<j ->Dif (gL l t) (gL l k))) (fun i _=>k - (intOf i).toNat);case atStart=>exact⟨0,Ux _,rfl,hid zI,hid (fun t ht=>oM)⟩
         case round=>
          obtain⟨j,hj,rfl,G,P⟩:=hrel;have g0:=(G.cell (p:=(Ub w.heap.size)) zt).trans B;have g2:=Ga _ G;have g3:=Gb _ G;by_cases Hw:j<k
          ·obtain⟨ja,jc,_,_,_,L,N,_⟩:=H j oM;have j2:=(((u.trans (G.mono u.size)).cell (p:=(Ua b (off+j*5+2))) X)).trans L;have j3:=(((u.trans (G.mono u.size)).cell (p:=(Ua b (off+j*5+3))) X)).trans N;obtain⟨yj,H0⟩:=zE (gL l j);rw [H0] at j2 j3;have Hd:=hid H0;obtain⟨pj,fj,J,I,vj⟩:=yj;dsimp only at j2 j3;have q1:(0:Int)<=(j:Int):=UI _;have q2:(j:Int)<(l.length:Int):=oM;have q3:(j:Int)<(k:Int):=oM;have hG:=Qk3;have EQ:∀w:Ur,(binOp .eql 83 (Uo #[Ud J,Ud I]) (Uo #[Ud r,Ud q])).run prog w=.ok (Un (J==r && I==q)) w:=fun w=>QlD J I r q w;clear H0 L N B y2 y3;by_cases hr:J=r
           ·have e1:(J==r)=true:=oU hr;by_cases hq:I=q
            ·have e2:(I==q)=true:=oU hq;have EQ:∀w:Ur,(binOp .eql 83 (Uo #[Ud J,Ud I]) (Uo #[Ud r,Ud q])).run prog w=.ok (Un true) w:=fun w=>by rw [EQ w,e1,e2];rfl
             have M:Hid (Y=false):=hid (by rw [<- HY.out];exact Qag (fun h=>h.2.2.2 k Hi j Hw (by rw [Hd.out,S.out];exact⟨hr,hq⟩)));have HZ:=hid (g.trans ((u.trans (G.mono u.size)).mono g.size));clear V P H;go_wp2_with fail;go_quiet (fail);go_wp2_with fail;go_ret;exact⟨Qaz M.symm,Qay HZ _⟩
            ·have e2:(I==q)=false:=oU hq;have EQ:∀w:Ur,(binOp .eql 83 (Uo #[Ud J,Ud I]) (Uo #[Ud r,Ud q])).run prog w=.ok (Un false) w:=fun w=>by rw [EQ w,e1,e2];rfl
             have HD:Hid (∀t,t<j+1 ->Dif (gL l t) (gL l k)):=hid (fun t ht=>by
              by_cases e:t=j
              ·rw [e,Hd.out,S.out];exact fun h=>hq h.2
              ·exact P t oM)
             clear V P H;go_wp2_with fail;go_quiet (fail);have Hl:=hid (Qay G nq);go_wp2_with fail;go_roundw;case rel=>exact⟨j+1,Hw,oN,Hl,HD⟩
             case measure=>exact oE
           ·have e1:(J==r)=false:=oU hr;have EQ:∀w:Ur,(binOp .eql 83 (Uo #[Ud J,Ud I]) (Uo #[Ud r,Ud q])).run prog w=.ok (Un false) w:=fun w=>by rw [EQ w,e1];rfl
            have HD:Hid (∀t,t<j+1 ->Dif (gL l t) (gL l k)):=hid (fun t ht=>by
             by_cases e:t=j
             ·rw [e,Hd.out,S.out];exact fun h=>hr h.1
             ·exact P t oM)
            clear V P H;go_wp2_with fail;go_quiet (fail);have Hl:=hid (Qay G nq);go_wp2_with fail;go_roundw;case rel=>exact⟨j+1,Hw,oN,Hl,HD⟩
            case measure=>exact oE
          ·obtain rfl:j=k:=oM;have HN:Hid (QbT R F T n l (j+1)/\ Dis l (j+1)):=hid ⟨HI.1.step (by rw [S.out];exact Hg) (by rw [S.out];exact Hn) (fun h=>by rw [S.out];exact Ho h),HI.2.step P⟩;have HZ:=hid (u.trans (G.mono u.size));clear V P H B y2 y3 g0 g2 g3;go_wp2_with fail;go_roundw;case rel=>exact⟨j+1,Hi,oN,HZ,HN⟩
           case measure=>exact oE
    ·obtain rfl:k=l.length:=oM;have M:Hid (Y=true):=hid (by rw [<- HY.out];exact Qaj ⟨HC,oM,HI.1,HI.2⟩);have HB:=hid (g.trans (z.mono g.size));clear m0 m1;go_wp2_with fail;go_ret;exact⟨Qaz M.symm,HB⟩
theorem Qkn.bw{l:List Lf}{D:DataW Value}(h:Qkn w bm k l D)(hb:Bl w w1):Qkn w1 bm k l D:=
 ⟨h.own.kept ⟨hb.os,hb.tape,hb.output,hb.size,fun k hk _=>hb.block k hk⟩ (by simp:Uq bm≠Up),h.tidy,h.has',h.le,h.eq⟩
def QnB (R F T:Nat ->Int)(n:Nat)(l:List Lf):Prop:=l.length<=1000/\ QbT R F T n l l.length/\ Dis l l.length
theorem QhS (a:Option Us)(c:Nat)(l:List Lf)(bm n:Nat)(M:DataW Value)(G:Int ->Value)(R F T:Nat ->Int)(w:Ur)(hn:l.length<=1048576)(hp:LBd l)(hi:∀i,LfI (gL l i))(h:Qe9 w a l)
  (hG:QaH w bm n M G (Lk R F T n)) (hs:∀r,Srt (Lk R F T n r)) (hl:∀r,(Lk R F T n r).length<=1000000):
  Cl 122 #[Uf a l.length c,.map (Uq bm)] w (Rt w (Un (yes (QnB R F T n l)))):=by
 have Gg:=@run_makeMap prog;obtain⟨Y,hY⟩:=zE (yes (QnB R F T n l));have HY:=hid hY;rw [hY];clear hY;have HL:=hid h;have HG:=hid hG;clear h hG;by_cases Hk:(1000:Int)<(l.length:Int)
 ·have d0:decide ((1000:Int)<(l.length:Int))=true:=oU Hk;have O:Hid (Y=false):=hid (by rw [<- HY.out];exact Qag (fun h=>oH h.1));go_enter func122,ntmps122;go_wp2_with fail;go_ret;exact⟨Qaz O.symm,zI⟩
 ·have d0:decide ((1000:Int)<(l.length:Int))=false:=oU Hk;go_enter func122,ntmps122;go_wp2_with fail;clear d0;have H7:=hid (Qkn.made w l);have H3:Hid (Bl w (w.alloc (.map #[] 0))):=hid (zO _ _);go_loopw [14] (fun i wr=>∃k:Nat,k<=l.length/\ i=Ud k/\ Hid (Bl w wr)/\ (∃D,Hid (Qkn wr w.heap.size k l D))/\ Hid (QbT R F T n l k)) (fun i _=>l.length - (intOf i).toNat);case atStart=>exact⟨0,Ux _,rfl,H3,⟨_,H7⟩,hid (fun i hi=>oM)⟩
  case round=>
   clear H7 H3 Gg;obtain⟨k,hk,rfl,U,⟨D,Hh⟩,HI⟩:=hrel;by_cases Ho:k<l.length
   ·rcases HL.out with h|⟨b,off,rfl,S,hc⟩
    ·omega
    obtain⟨L,pc,c0,s,c1,c2,c3,c4⟩:=hc k Ho;have x0:=(U.cell (p:=(Ua b (off+k*5))) S).trans c0;have x1:=(U.cell (p:=(Ua b (off+k*5+1))) S).trans c1;have x2:=(U.cell (p:=(Ua b (off+k*5+2))) S).trans c2;have x3:=(U.cell (p:=(Ua b (off+k*5+3))) S).trans c3;have x4:=(U.cell (p:=(Ua b (off+k*5+4))) S).trans c4;have HS:=hid (s.bw U);have i1:(0:Int)<=(k:Int):=UI _;have i2:(k:Int)<(l.length:Int):=oM;have Gc:=hid hc;have zr:w.heap.size<=wr.heap.size:=U.size;have C:=hi k;clear hc c0 c1 c2 c3 c4 s;obtain⟨y,hy⟩:=zE (gL l k);have Hp:=hp k;rw [hy] at HS x0 x1 x2 x3 x4 Hp C;have I:=hid hy;clear hy;obtain⟨p,fl,r,q,v⟩:=y;dsimp only [LfI] at HS x0 x1 x2 x3 x4 Hp C;go_wp2_with fail;obtain⟨V,Hn⟩:=zE (wr.alloc (Uj #[Uf L p.length pc,Un fl,Ud r,Ud q,Um v] 85));have b2:Bl wr V:=Hn▸zO _ _;have B5:Bx5 V wr.heap.size (Uf L p.length pc) (Un fl) (Ud r) (Ud q) (Um v):=(by rw [<- Hn];exact⟨oP,oP,oP,oP,oP,fun i=>oP,oP⟩);obtain⟨y0,y1,y2,y3,y4⟩:=B5.q5;have g:=B5.lt;have Hc:=hid b2;have m:=hid (U.trans (b2.mono U.size));have H8:=hid (HS.bw b2);have Ge:=hid (HG.bw m);rw [Hn];clear Hn b2 B5 x0 x1 x2 x3 x4 HS;have E:Hid (¬(Qcz ⟨p,fl,r,q,v⟩/\ Qb6 R F T r q q n=true/\ (0<k ->QaL (gL l (k - 1)) ⟨p,fl,r,q,v⟩<0)) ->Y=false):=hid (fun no=>by
     rw [<- HY.out];exact Qag (fun h=>no (by have:=h.2.1 k Ho;rw [I.out] at this;exact this)))
    obtain⟨Y1,Hx⟩:=zE (yes (Qcz ⟨p,fl,r,q,v⟩));have Hl:=hid Hx;have H6:Hid (∀W,Bl V W ->Cl 139 #[Uo #[Uf L p.length pc,Un fl,Ud r,Ud q,Um v]] W (Rt W (Un Y1))):=hid (fun W hB=>Hx▸QoI L pc p fl r q v W Hp (H8.bw hB));obtain⟨A,hA⟩:=zE (Qb6 R F T r q q n);have HA:=hid hA;have H5:Hid (∀W,Bl V W ->Cl 140 #[.map (Uq bm),Uo #[Ud r,Ud q]] W (Rt W (Un A))):=hid (fun W hB=>by rw [<- hA,<- Qec];exact QpV (Ge.bw hB) r q C.1 (hs r) (hl r));clear Hx hA;by_cases Gb:k=0
    ·have d2:decide ((0:Int)<(k:Int))=false:=oS;have d3:decide (0<k)=false:=oS;have Hd:Hid (0<k ->QaL (gL l (k - 1)) ⟨p,fl,r,q,v⟩<0):=hid (fun h=>oM);clear Gb;have u:Hid (∀w',Bl V w' ->(Bl V w'/\ w'.cell? (Ub wr.heap.size)=Uq (Uf L p.length pc)/\ w'.cell? (Ua wr.heap.size 1)=Uq (Un fl)/\ w'.cell? (Ua wr.heap.size 2)=Uq (Ud r)/\ w'.cell? (Ua wr.heap.size 3)=Uq (Ud q)/\ w'.cell? (Ua wr.heap.size 4)=Uq (Um v))):=hid (fun w' hB=>⟨hB,(hB.cell (p:=(Ub wr.heap.size)) g).trans y0,(hB.cell (p:=(Ua wr.heap.size 1)) g).trans y1,(hB.cell (p:=(Ua wr.heap.size 2)) g).trans y2,(hB.cell (p:=(Ua wr.heap.size 3)) g).trans y3,(hB.cell (p:=(Ua wr.heap.size 4)) g).trans y4⟩);refine zS u (fun qh=> ?_);refine tZ 0 19 ?_;refine cZ 1 ?_;intro K z;go_simp;refine(H6 _ qh.1).mono ?_;rintro e w3 ⟨rfl,b3⟩;have Hi:=qh.1.trans (b3.mono qh.1.size);refine z.out _ _ (u _ Hi) (fun qh=> ?_);clear z K;try simp only [zP]
     cases Y1 with
     | false=>
      refine tZ 2 21 ?_;refine tZ 3 22 ?_;refine uZ 4 23 ?_;refine uZ 5 24 ?_;refine uZ 6 25 ?_;refine uZ 7 26 ?_;refine uZ 8 27 ?_;refine tZ 9 28 ?_;refine tZ 10 29 ?_;refine uZ 11 30 ?_;refine uZ 12 31 ?_;refine uZ 13 32 ?_;refine uZ 14 33 ?_;refine uZ 15 34 ?_;refine uZ 16 35 ?_;refine uZ 17 36 ?_;refine uZ 18 37 ?_;refine uZ 19 38 ?_;refine uZ 20 39 ?_;refine uZ 21 40 ?_;refine uZ 22 41 ?_;refine tZ 23 42 ?_;refine zD ?_;have O:=hid (E (fun h=>by have:=Qaj h.1;rw [Hl.out] at this;cases this));have Q:=hid (m.trans (Hi.mono m.size));clear qh u E;go_wp2_with fail;go_ret;exact⟨Qaz O.symm,Q⟩
     | true=>
      refine tZ 2 21 ?_;refine tZ 3 22 ?_;refine tZ 4 23 ?_;refine tZ 5 24 ?_;refine tZ 6 25 ?_;refine cZ 7 ?_;intro K z;go_simp;refine(H5 _ qh.1).mono ?_;rintro e w4 ⟨rfl,b4⟩;have J:=qh.1.trans (b4.mono qh.1.size);refine z.out _ _ (u _ J) (fun qh=> ?_);clear z K;try simp only [zP]
      cases A with
      | false=>
       refine tZ 8 27 ?_;refine tZ 9 28 ?_;refine tZ 10 29 ?_;refine uZ 11 30 ?_;refine uZ 12 31 ?_;refine uZ 13 32 ?_;refine uZ 14 33 ?_;refine uZ 15 34 ?_;refine uZ 16 35 ?_;refine uZ 17 36 ?_;refine uZ 18 37 ?_;refine uZ 19 38 ?_;refine uZ 20 39 ?_;refine uZ 21 40 ?_;refine uZ 22 41 ?_;refine tZ 23 42 ?_;refine zD ?_;have O:=hid (E (fun h=>by have:=h.2.1;rw [HA.out] at this;cases this));have Q:=hid (m.trans (J.mono m.size));clear qh u E;go_wp2_with fail;go_ret;exact⟨Qaz O.symm,Q⟩
      | true=>
       refine tZ 8 27 ?_;refine tZ 9 28 ?_;refine tZ 10 29 ?_;refine tZ 11 30 ?_;refine tZ 12 31 ?_;refine tZ 13 32 ?_;refine uZ 14 33 ?_;refine uZ 15 34 ?_;refine uZ 16 35 ?_;refine uZ 17 36 ?_;refine uZ 18 37 ?_;refine uZ 19 38 ?_;refine uZ 20 39 ?_;refine uZ 21 40 ?_;refine tZ 22 41 ?_;refine tZ 23 42 ?_;refine zD ?_;have Hr:=hid J;have y2:=(J.cell (p:=(Ua wr.heap.size 2)) g).trans y2;have y3:=(J.cell (p:=(Ua wr.heap.size 3)) g).trans y3;obtain⟨kl,B⟩:=QdP C.1 C.2;have Hv:=hid B;have N:=Hh.bw (Hc.trans (J.mono Hc.size));have Ha:=N.own;have Hg:plainElem (H:=Value) prog 3 (Ud (k:Int))=Uq (.lit (.int Uh (k:Int)),[]):=plainElem_int underlying3 (wfI oM oM);have Hf:keyOf prog 83 (Uo #[Ud r,Ud q])=Uq kl:=B;have Hs:=hid N;clear qh u E N B;go_wp2_with (refine wpList_mapUpdate_own _ rfl _ _ _ 245 rfl 83 3 Qau underlying245 (plainElem prog 3) (w.heap.size) k D rfl Ha oL _ _ kl rfl rfl Hf (.lit (.int Uh (k:Int))) [] Hg ?_;intro w6 Hb He);have Ht:=hid (Hs.step (by rw [I.out];exact Hv) Hb);have Hj:=m.trans (Hr.mono m.size);have Hq:=hid (Hj.grown He Hj.size (fun t e=>oI e));have HN:Hid (QbT R F T n l (k+1)):=hid (HI.step (by rw [I.out];exact QcJ.1 Hl) (by rw [I.out];exact HA) (fun h=>by rw [I.out];exact Hd h));go_roundw;case rel=>exact⟨k+1,Ho,oN,Hq,⟨_,Ht⟩,HN⟩
       case measure=>exact oE
    ·obtain⟨j,hj⟩:∃j,k=j+1:=⟨k - 1,oM⟩;obtain⟨H1,H2,c0,s',c1,c2,c3,c4⟩:=Gc j oM;have Z:=fun(o:Nat)=>m.cell (p:=(Ua b o)) S;have j0:=(Z _).trans c0;have j1:=(Z _).trans c1;have j2:=(Z _).trans c2;have j3:=(Z _).trans c3;have j4:=(Z _).trans c4;have Hw:=hid (s'.bw m);have Hy:=hp j;obtain⟨y',H0⟩:=zE (gL l j);rw [H0] at j0 j1 j2 j3 j4 Hw Hy;have H4:=hid H0;obtain⟨p',Hm,r',Z,v'⟩:=y';dsimp only at j0 j1 j2 j3 j4 Hw Hy;have zb:b<V.heap.size:=oH m.size;have d2:decide ((0:Int)<(k:Int))=true:=oS;have d3:decide (0<k)=true:=oS;have Hz:(k:Int) - 1=(j:Int):=oM;have Gh:IntKind.i64.wrap (j:Int)=(j:Int):=(by rw [VP];omega);have Gi:IntKind.i64.wrap ((k:Int) - 1)=(j:Int):=(by rw [Hz];exact Gh);have q1:(0:Int)<=(j:Int):=UI _;have q2:(j:Int)<(l.length:Int):=oM;have Hu:=hid hj;obtain⟨X,hX⟩:=zE (QaL ⟨p',Hm,r',Z,v'⟩ ⟨p,fl,r,q,v⟩);have H9:=hid hX;have Gd:Hid (∀W,Bl V W ->Cl 141 #[Uo #[Uf H1 p'.length H2,Un Hm,Ud r',Ud Z,Um v'],Uo #[Uf L p.length pc,Un fl,Ud r,Ud q,Um v]] W (Rt W (Ud X))):=hid (fun W hB=>hX▸Qfn H1 L H2 pc p' p Hm fl r' Z r q v' v W Hy Hp (Hw.bw hB) (H8.bw hB));clear hX hj Gb c0 c1 c2 c3 c4 s' H0;have u:Hid (∀w',Bl V w' ->(Bl V w'/\ w'.cell? (Ub wr.heap.size)=Uq (Uf L p.length pc)/\ w'.cell? (Ua wr.heap.size 1)=Uq (Un fl)/\ w'.cell? (Ua wr.heap.size 2)=Uq (Ud r)/\ w'.cell? (Ua wr.heap.size 3)=Uq (Ud q)/\ w'.cell? (Ua wr.heap.size 4)=Uq (Um v)/\ w'.cell? (Ua b (off+j*5))=Uq (Uf H1 p'.length H2)/\ w'.cell? (Ua b (off+j*5+1))=Uq (Un Hm)/\ w'.cell? (Ua b (off+j*5+2))=Uq (Ud r')/\ w'.cell? (Ua b (off+j*5+3))=Uq (Ud Z)/\ w'.cell? (Ua b (off+j*5+4))=Uq (Um v'))):=hid (fun w' hB=>⟨hB,(hB.cell (p:=(Ub wr.heap.size)) g).trans y0,(hB.cell (p:=(Ua wr.heap.size 1)) g).trans y1,(hB.cell (p:=(Ua wr.heap.size 2)) g).trans y2,(hB.cell (p:=(Ua wr.heap.size 3)) g).trans y3,(hB.cell (p:=(Ua wr.heap.size 4)) g).trans y4,(hB.cell (p:=(Ua b (off+j*5))) zb).trans j0,(hB.cell (p:=(Ua b (off+j*5+1))) zb).trans j1,(hB.cell (p:=(Ua b (off+j*5+2))) zb).trans j2,(hB.cell (p:=(Ua b (off+j*5+3))) zb).trans j3,(hB.cell (p:=(Ua b (off+j*5+4))) zb).trans j4⟩);refine zS u (fun qh=> ?_);refine tZ 0 19 ?_;refine cZ 1 ?_;intro K z;go_simp;refine(H6 _ qh.1).mono ?_;rintro e w3 ⟨rfl,b3⟩;have Hi:=qh.1.trans (b3.mono qh.1.size);refine z.out _ _ (u _ Hi) (fun qh=> ?_);clear z K;try simp only [zP]
     cases Y1 with
     | false=>
      refine tZ 2 21 ?_;refine tZ 3 22 ?_;refine uZ 4 23 ?_;refine uZ 5 24 ?_;refine uZ 6 25 ?_;refine uZ 7 26 ?_;refine uZ 8 27 ?_;refine tZ 9 28 ?_;refine tZ 10 29 ?_;refine uZ 11 30 ?_;refine uZ 12 31 ?_;refine uZ 13 32 ?_;refine uZ 14 33 ?_;refine uZ 15 34 ?_;refine uZ 16 35 ?_;refine uZ 17 36 ?_;refine uZ 18 37 ?_;refine uZ 19 38 ?_;refine uZ 20 39 ?_;refine uZ 21 40 ?_;refine uZ 22 41 ?_;refine tZ 23 42 ?_;refine zD ?_;have O:=hid (E (fun h=>by have:=Qaj h.1;rw [Hl.out] at this;cases this));have Q:=hid (m.trans (Hi.mono m.size));clear qh u E;go_wp2_with fail;go_ret;exact⟨Qaz O.symm,Q⟩
     | true=>
      refine tZ 2 21 ?_;refine tZ 3 22 ?_;refine tZ 4 23 ?_;refine tZ 5 24 ?_;refine tZ 6 25 ?_;refine cZ 7 ?_;intro K z;go_simp;refine(H5 _ qh.1).mono ?_;rintro e w4 ⟨rfl,b4⟩;have J:=qh.1.trans (b4.mono qh.1.size);refine z.out _ _ (u _ J) (fun qh=> ?_);clear z K;try simp only [zP]
      cases A with
      | false=>
       refine tZ 8 27 ?_;refine tZ 9 28 ?_;refine tZ 10 29 ?_;refine uZ 11 30 ?_;refine uZ 12 31 ?_;refine uZ 13 32 ?_;refine uZ 14 33 ?_;refine uZ 15 34 ?_;refine uZ 16 35 ?_;refine uZ 17 36 ?_;refine uZ 18 37 ?_;refine uZ 19 38 ?_;refine uZ 20 39 ?_;refine uZ 21 40 ?_;refine uZ 22 41 ?_;refine tZ 23 42 ?_;refine zD ?_;have O:=hid (E (fun h=>by have:=h.2.1;rw [HA.out] at this;cases this));have Q:=hid (m.trans (J.mono m.size));clear qh u E;go_wp2_with fail;go_ret;exact⟨Qaz O.symm,Q⟩
      | true=>
       refine tZ 8 27 ?_;refine tZ 9 28 ?_;refine tZ 10 29 ?_;refine tZ 11 30 ?_;refine tZ 12 31 ?_;refine tZ 13 32 ?_;refine tZ 14 33 ?_;refine tZ 15 34 ?_;refine tZ 16 35 ?_;refine tZ 17 36 ?_;refine tZ 18 37 ?_;refine tZ 19 38 ?_;refine cZ 20 ?_;intro K z;go_simp;refine(Gd _ qh.1).mono ?_;rintro e w5 ⟨rfl,b5⟩;have P:=qh.1.trans (b5.mono qh.1.size);refine z.out _ _ (u _ P) (fun qh=> ?_);clear z K;try simp only [zP]
       by_cases Ga:(0:Int)<=X
       ·have d4:decide ((0:Int)<=X)=true:=oU Ga;refine tZ 21 40 ?_;refine tZ 22 41 ?_;refine tZ 23 42 ?_;refine zD ?_;have O:=hid (E (fun h=>by have e:=h.2.2 (oH Hu);rw [show k - 1=j by have:=Hu.out;omega,H4,H9.out] at e;omega));have Q:=hid (m.trans (P.mono m.size));clear qh u E;go_wp2_with fail;go_ret;exact⟨Qaz O.symm,Q⟩
       ·have d4:decide ((0:Int)<=X)=false:=oU Ga;have Hd:Hid (0<k ->QaL (gL l (k - 1)) ⟨p,fl,r,q,v⟩<0):=hid (fun _=>by rw [show k - 1=j by have:=Hu.out;omega,H4,H9.out];omega);refine tZ 21 40 ?_;refine tZ 22 41 ?_;refine tZ 23 42 ?_;refine zD ?_;have Hr:=hid P;have y2:=(P.cell (p:=(Ua wr.heap.size 2)) g).trans y2;have y3:=(P.cell (p:=(Ua wr.heap.size 3)) g).trans y3;obtain⟨kl,B⟩:=QdP C.1 C.2;have Hv:=hid B;have N:=Hh.bw (Hc.trans (P.mono Hc.size));have Ha:=N.own;have Hg:plainElem (H:=Value) prog 3 (Ud (k:Int))=Uq (.lit (.int Uh (k:Int)),[]):=plainElem_int underlying3 (wfI oM oM);have Hf:keyOf prog 83 (Uo #[Ud r,Ud q])=Uq kl:=B;have Hs:=hid N;clear qh u E N B;go_wp2_with (refine wpList_mapUpdate_own _ rfl _ _ _ 245 rfl 83 3 Qau underlying245 (plainElem prog 3) (w.heap.size) k D rfl Ha oL _ _ kl rfl rfl Hf (.lit (.int Uh (k:Int))) [] Hg ?_;intro w6 Hb He);have Ht:=hid (Hs.step (by rw [I.out];exact Hv) Hb);have Hj:=m.trans (Hr.mono m.size);have Hq:=hid (Hj.grown He Hj.size (fun t e=>oI e));have HN:Hid (QbT R F T n l (k+1)):=hid (HI.step (by rw [I.out];exact QcJ.1 Hl) (by rw [I.out];exact HA) (fun h=>by rw [I.out];exact Hd h));go_roundw;case rel=>exact⟨k+1,Ho,oN,Hq,⟨_,Ht⟩,HN⟩
        case measure=>exact oE
   ·obtain rfl:k=l.length:=oM;have Ha:=Hh.own;have Gf:Hid (Y=((Maps.size D:Int)==(l.length:Int))):=hid (by
     rw [<- HY.out];by_cases e:Maps.size D=l.length
     ·rw [Qaj ⟨oM,HI.out,fun i hi j hj=>Hh.eq.1 e i hi j hj⟩,e];simp
     ·rw [Qag (fun h=>e (Hh.eq.2 (fun i hi j hj=>h.2.2 i hi j hj)))];symm;simp;omega)
    have Q:=hid U;go_wp2_with (refine wpList_len_own _ rfl _ 245 rfl 83 3 underlying245 _ _ _ _ rfl Ha ?_);go_ret;exact⟨Qaz Gf.symm,Q⟩
theorem QjD (a:Option Us)(c:Nat)(l:List Lf)(x:Option Us)(n d:Nat)(R F T:Nat ->Int)(w:Ur)(hn:l.length<=1048576)(hp:LBd l)(hi:∀i,LfI (gL l i))(hm:n<=1048576)(h:Qe9 w a l)(h':QaT w x n R F T):
  Cl 96 #[Uo #[Uf a l.length c,Uf x n d]] w fun e w'=>(∃M,e=Ui (Ul #[M,Un (yes (Qba R F T n l))]))/\ Bl w w':=by
 obtain⟨W,k⟩:=zE (w.alloc (Uj #[Uf a l.length c,Uf x n d] 28));have q:Bl w W:=k▸zO _ _;have V:w.heap.size<W.heap.size:=k▸oP;have u:W.cell? (Ub w.heap.size)=Uq (Uf a l.length c):=k▸oP;have U:W.cell? (Ua w.heap.size 1)=Uq (Uf x n d):=k▸oP;have Z:=hid (h.bw q);have A:=hid (h'.bw q);have t:=hid q;clear h h' q;obtain⟨Y,z⟩:=zE (yes (Qba R F T n l));have v:=hid z;rw [z];clear z;cases hcx:QcS R F T n with
 | false=>
  have s:Hid (Y=false):=hid (by rw [<- v.out];exact Qag (fun h=>by have:=h.1;rw [hcx] at this;cases this));have m:=hid (QkY x n d R F T W hm A hcx);have K:=s.out;clear hcx s v;subst K;go_enter func96,ntmps96;go_wp2_with fail;try rw [k]
  clear k;refine m.mono ?_;rintro e w1 ⟨rfl,j⟩;have N:=(j.cell (p:=(Ub w.heap.size)) V).trans u;have y:=hid (Qaa t j);clear j m u U;go_wp2_with fail;go_ret2;exact⟨⟨_,rfl⟩,y⟩
 | true=>
  have g:=Qal.1 hcx;have m:=hid (QoY x n d R F T W hm A hcx);have I:Hid (∀r,Srt (Lk R F T n r)):=hid (fun r=>(QbZ n g.1 r).1);have H:Hid (∀r,(Lk R F T n r).length<=1000000):=hid (fun r=>oJ (Qbx R F T n r) g.2);have b:Hid (Y=yes (QnB R F T n l)):=hid (by
   rw [<- v.out];by_cases e:QnB R F T n l
   ·rw [Qaj e,Qaj ⟨hcx,e.1,e.2.1,e.2.2⟩]
   ·rw [Qag e,Qag (fun h=>e ⟨h.2.1,h.2.2.1,h.2.2.2⟩)])
  clear g hcx;go_enter func96,ntmps96;go_wp2_with fail;try rw [k]
  clear k;refine m.mono ?_;rintro e w1 ⟨J,D,G,rfl,Q,L,j⟩;have N:=(j.cell (p:=(Ub w.heap.size)) V).trans u;have o:=hid (QhS a c l J n D G R F T w1 hn hp hi (Z.bw j) Q I H);have y:=hid (Qaa t j);clear j m u U Q L;go_wp2_with fail;refine o.mono ?_;rintro e X ⟨rfl,O⟩;have E:=hid (Qaa y O);rw [<- b.out];clear O o b;cases Y with
  | true=>
   go_wp2_with fail;go_ret2;exact⟨⟨_,rfl⟩,E⟩
  | false=>
   go_wp2_with fail;go_ret2;exact⟨⟨_,rfl⟩,E⟩
noncomputable def Mk (l:List Lf):Nat ->List Ky ->Dt ->Option ByteArray
 | 0=>fun _ _=>Up
 | k+1=>Qkq (Mk l k) (Qac (gL l k).p (kd (gL l k).fl)) ((gL l k).r,(gL l k).q) (gL l k).v
def Way (x:Lf):List Ky:=Qac x.p (kd x.fl)
theorem Qe6 {l:List Lf}{p:List Ky}{d:Dt}:∀{k:Nat},Mk l k p d≠Up↔∃j,j<k/\ Way (gL l j)=p/\ ((gL l j).r,(gL l j).q)=d
 | 0=>⟨fun h=>absurd rfl h,fun⟨j,m,_⟩=>oM⟩
 | k+1=>by
  have g:=Qe6 (l:=l) (p:=p) (d:=d) (k:=k);simp only [Mk];by_cases e:p=Qac (gL l k).p (kd (gL l k).fl)
  ·rw [e,QbH,<- e];by_cases y:d=((gL l k).r,(gL l k).q)
   ·rw [y,Qaw];exact⟨fun _=>⟨k,oM,e.symm,rfl⟩,fun _ h=>by cases h⟩
   ·rw [Qam _ _ y,g];constructor
    ·rintro⟨j,m,r⟩;exact⟨j,oM,r⟩
    ·rintro⟨j,m,u,v⟩;by_cases z:j=k
     ·subst z;exact absurd v.symm y
     ·exact⟨j,oM,u,v⟩
  ·rw [Qbf _ _ _ e,g];constructor
   ·rintro⟨j,m,r⟩;exact⟨j,oM,r⟩
   ·rintro⟨j,m,u,v⟩;by_cases z:j=k
    ·subst z;exact absurd u.symm e
    ·exact⟨j,oM,u,v⟩
def NkI (l:List Lf)(k:Nat)(N:List Ky ->Option (Nat×Nat)):Prop:=∀z,(N z).isSome=true↔z=[] \/∃j,j<k/\ z <+:Way (gL l j)
theorem QjE (a:Option Us)(c:Nat)(l:List Lf)(x:Option Us)(n d:Nat)(R F T:Nat ->Int)(w:Ur)(hn:l.length<=1048576)(hp:LBd l)(hi:∀i,LfI (gL l i))(hm:n<=1048576)(h:Qe9 w a l)(h':QaT w x n R F T)(hok:Qba R F T n l):
  Cl 96 #[Uo #[Uf a l.length c,Uf x n d]] w fun e w'=>(∃j D G,e=Ui (Ul #[.map (Uq j),Un true])/\ QaH w' j n D G (Lk R F T n)/\ w.heap.size<=j)/\ Bl w w':=by
 obtain⟨W,k⟩:=zE (w.alloc (Uj #[Uf a l.length c,Uf x n d] 28));have m:Bl w W:=k▸zO _ _;have E:w.heap.size<W.heap.size:=k▸oP;have A:W.cell? (Ub w.heap.size)=Uq (Uf a l.length c):=k▸oP;have K:W.cell? (Ua w.heap.size 1)=Uq (Uf x n d):=k▸oP;have V:=hid (h.bw m);have Z:=hid (h'.bw m);have M:=hid m;clear h h' m;have v:=hok.1;have z:=Qal.1 v;have o:=hid (QoY x n d R F T W hm Z v);have H:Hid (∀r,Srt (Lk R F T n r)):=hid (fun r=>(QbZ n z.1 r).1);have Y:Hid (∀r,(Lk R F T n r).length<=1000000):=hid (fun r=>oJ (Qbx R F T n r) z.2);have t:Hid (yes (QnB R F T n l)=true):=hid (Qaj ⟨hok.2.1,hok.2.2.1,hok.2.2.2⟩);have b:=hid E;clear z v hok;go_enter func96,ntmps96;go_wp2_with fail;try rw [k]
 clear k;refine o.mono ?_;rintro e w1 ⟨j,D,G,rfl,y,s,q⟩;have L:=(q.cell (p:=(Ub w.heap.size)) b).trans A;have g:=hid (QhS a c l j n D G R F T w1 hn hp hi (V.bw q) y H Y);have I:=hid (Qaa M q);have U:=hid y;have O:=hid s;clear q o A K y s E;go_wp2_with fail;refine g.mono ?_;rintro e N ⟨rfl,u⟩;have J:=hid (Qaa I u);have Q:=hid (U.bw u);rw [t.out];clear u g t;go_wp2_with fail;go_ret2;exact⟨⟨j,D,G,rfl,Q,Uw (Nat.le_of_lt b) O⟩,J⟩
structure Bx3 (w:Ur)(b:Nat)(v0 v1 v2:Value):Prop where
 c0:w.cell? (Ub b)=Uq v0
 c1:w.cell? (Ua b 1)=Uq v1
 c2:w.cell? (Ua b 2)=Uq v2
 f:∀i,w.frozen? (Ua b i)=false
 lt:b<w.heap.size
theorem Bx3.q2(h:Bx3 w b v0 v1 v2):w.cell? (Ub b)=Uq v0/\ w.cell? (Ua b 1)=Uq v1:=⟨h.c0,h.c1⟩
theorem Bx3.p2(h:Bx3 w b v0 v1 v2):w.cell? (Ub b)=Uq v0/\ w.cell? (Ua b 1)=Uq v1/\ ∀i,w.frozen? (Ua b i)=false:=⟨h.c0,h.c1,h.f⟩
theorem Bx3.q3(h:Bx3 w b v0 v1 v2):w.cell? (Ub b)=Uq v0/\ w.cell? (Ua b 1)=Uq v1/\ w.cell? (Ua b 2)=Uq v2:=⟨h.c0,h.c1,h.c2⟩
theorem Bx3.p3(h:Bx3 w b v0 v1 v2):w.cell? (Ub b)=Uq v0/\ w.cell? (Ua b 1)=Uq v1/\ w.cell? (Ua b 2)=Uq v2/\ ∀i,w.frozen? (Ua b i)=false:=⟨h.c0,h.c1,h.c2,h.f⟩
theorem Bx3.bw(h:Bx3 w b v0 v1 v2)(hb:Below B w w')(hB:b<B):Bx3 w' b v0 v1 v2:=
 ⟨(hb.cell (p:=(Ub b)) hB).trans h.c0,(hb.cell (p:=(Ua b 1)) hB).trans h.c1,(hb.cell (p:=(Ua b 2)) hB).trans h.c2,fun i=>(hb.frozen (p:=(Ua b i)) hB).trans (h.f i),Ut h.lt hb.size⟩
theorem Bx3.gt(h:Bx3 w b v0 v1 v2)(hg:Gt B w w'):Bx3 w' b v0 v1 v2:=
 ⟨hg.cell h.c0,hg.cell h.c1,hg.cell h.c2,fun i=>(hg.frozen (q:=(Ua b i)) h.c0 rfl).trans (h.f i),Ut h.lt hg.size⟩
theorem Bx3.made (w:Ur)(v0 v1 v2:Value)(t:TypeId):Bx3 (w.alloc (Uj #[v0,v1,v2] t)) w.heap.size v0 v1 v2:=⟨oP,oP,oP,fun i=>oP,oP⟩
theorem Bx3.set0(h:Bx3 w b v0 v1 v2)(u:Value):Bx3 (w.setCell (Ub b) u) b u v1 v2:=
 ⟨UM _ _ _ h.c0,by simp [UN,h.c1],by simp [UN,h.c2],fun i=>by rw [UK];exact h.f i,by simp [UL];exact h.lt⟩
theorem Bx3.set1(h:Bx3 w b v0 v1 v2)(u:Value):Bx3 (w.setCell (Ua b 1) u) b v0 u v2:=
 ⟨by simp [UN,h.c0],UM _ _ _ h.c1,by simp [UN,h.c2],fun i=>by rw [UK];exact h.f i,by simp [UL];exact h.lt⟩
theorem Bx3.set2(h:Bx3 w b v0 v1 v2)(u:Value):Bx3 (w.setCell (Ua b 2) u) b v0 v1 u:=
 ⟨by simp [UN,h.c0],by simp [UN,h.c1],UM _ _ _ h.c2,fun i=>by rw [UK];exact h.f i,by simp [UL];exact h.lt⟩
theorem Bx3.set(h:Bx3 w b v0 v1 v2)(u0 u1 u2:Value):Bx3 (((w.setCell (Ub b) u0).setCell (Ua b 1) u1).setCell (Ua b 2) u2) b u0 u1 u2:=((h.set0 u0).set1 u1).set2 u2
theorem NkI.step {l:List Lf}{N N':List Ky ->Option (Nat×Nat)}(h:NkI l k N)(h':∀z,(N' z).isSome=true↔(N z).isSome=true \/z <+:Way (gL l k)):NkI l (k+1) N':=fun z=>by
 rw [h' z,h z];constructor
 ·rintro((e|⟨j,q,e⟩)|e)
  ·exact .inl e
  ·exact .inr ⟨j,oM,e⟩
  ·exact .inr ⟨k,oM,e⟩
 ·rintro(e|⟨j,q,e⟩)
  ·exact .inl (.inl e)
  ·by_cases m:j=k
   ·subst m;exact .inr e
   ·exact .inl (.inr ⟨j,oM,e⟩)
theorem Qqb (fl:Bool):(Lit.int Uh (kd fl)).wf=true:=by cases fl<;>decide
theorem Qep (a:Option Us)(c:Nat)(l:List Lf)(x:Option Us)(n d:Nat)(R F T:Nat ->Int)(w:Ur)(hn:l.length<=1048576)(hp:LBd l)(hi:∀i,LfI (gL l i))(hm:n<=1048576)(h:Qe9 w a l)(h':QaT w x n R F T)(hok:¬Qba R F T n l):
  Cl 70 #[Uo #[Uf a l.length c,Uf x n d]] w (Rt w (Ul #[Uo #[.map Up,.map Up,.map Up],Un false])):=by
 obtain⟨W,k⟩:=zE ((w.alloc (Uj #[Uf a l.length c,Uf x n d] 28)).alloc (Uj #[.map Up,.map Up,.map Up] 128));have m:Bl w W:=k▸Qad _ _ _;have u:Bx3 W (w.heap.size+1) (.map Up) (.map Up) (.map Up):=by rw [<- k];simpa using Bx3.made (w.alloc (Uj #[Uf a l.length c,Uf x n d] 28)) (.map Up) (.map Up) (.map Up) 128
 have o:W.cell? (Ub w.heap.size)=Uq (Uf a l.length c):=k▸oP;have b:W.cell? (Ua w.heap.size 1)=Uq (Uf x n d):=k▸oP;have q:=hid (QjD a c l x n d R F T W hn hp hi hm (h.bw m) (h'.bw m));have z:=hid m;have y:=hid u;rw [Qag hok] at q;clear h h' m u;go_enter func70,ntmps70;go_wp2_with fail;try rw [k]
 clear k;refine q.mono ?_;rintro e w1 ⟨⟨M,rfl⟩,r⟩;have j:=y.bw r y.lt;obtain⟨E,O,Q⟩:=j.q3;have U:=j.f 0;have V:=j.f 1;have Y:=j.f 2;have t:=hid (Qaa z r);have g:=hid (j.set (.map Up) (.map Up) (.map Up));clear r q o b j;go_wp2_with fail;obtain⟨p,s,A⟩:=g.q3;refine zF (v:=Ul #[Uo #[.map Up,.map Up,.map Up],Un false]) (by simp [results,results70,go_sem,p,s,A]) ⟨rfl,?_⟩;exact((t.setCell oP _).setCell oP _).setCell oP _
theorem QaH.set{D:DataW Value}{G:Int ->Value}(h:QaH w bm n D G L)(q:Us)(u:Value)(hq:q.block<bm):QaH (w.setCell q u) bm n D G L:=by
 have j:w.grownBy (w.setCell q u) (Uq q.block):=⟨rfl,rfl,rfl,by simp [UL],fun k _ hk=>zH _ _ _ _ (fun e=>hk (by rw [e]))⟩;refine⟨h.own.kept j (fun e=>oI e),h.at',h.has',fun r=>(h.rows r).kept j ?_,h.apart⟩;cases e:(G r).ownBlock with
 | none=>exact .inl rfl
 | some g=>exact .inr (fun e2=>by have:=((h.rows r).lt g e).1;injection e2 with e2;omega)
theorem QeU (a:Option Us)(c:Nat)(l:List Lf)(x:Option Us)(n d:Nat)(R F T:Nat ->Int)(w:Ur)(hn:l.length<=1048576)(hp:LBd l)(hi:∀i,LfI (gL l i))(hm:n<=1048576)(h:Qe9 w a l)(h':QaT w x n R F T)(hok:Qba R F T n l):
  Cl 70 #[Uo #[Uf a l.length c,Uf x n d]] w fun e w'=>(∃x0 g D G N B,e=Ui (Ul #[Uo #[.map (Uq x0.1),.map (Uq x0.2),.map (Uq g)],Un true])/\ QaH w' g n D G (Lk R F T n)/\ w.heap.size<=g/\ w.heap.size<=B/\ g<B/\ Tre w' B N (Mk l l.length) (9*l.length)/\ N []=Uq x0/\ NkI l l.length N)/\ Bl w w':=by
 obtain⟨W,U⟩:=zE ((w.alloc (Uj #[Uf a l.length c,Uf x n d] 28)).alloc (Uj #[.map Up,.map Up,.map Up] 128));have L:Bl w W:=U▸Qad _ _ _;have B0:Bx3 W (w.heap.size+1) (.map Up) (.map Up) (.map Up):=by rw [<- U];simpa using Bx3.made (w.alloc (Uj #[Uf a l.length c,Uf x n d] 28)) (.map Up) (.map Up) (.map Up) 128
 have k0:W.cell? (Ub w.heap.size)=Uq (Uf a l.length c):=U▸oP;have k1:W.cell? (Ua w.heap.size 1)=Uq (Uf x n d):=U▸oP;have HO:=hid (QjE a c l x n d R F T W hn hp hi hm (h.bw L) (h'.bw L) hok);have Hv:=hid L;have H:=hid B0;have H1:=hid hok;have HL:=hid (h.bw L);have H9:=hok.2.1;clear h h' L B0 hok;go_enter func70,ntmps70;go_wp2_with fail;try rw [U]
 clear U;refine HO.mono ?_;rintro e w1 ⟨⟨g,D,G,rfl,Hb,H7⟩,X⟩;have B1:=H.bw X H.lt;have Z:=hid B1;have HZ:=hid (Qaa Hv X);have k2:=(X.cell (p:=(Ub w.heap.size)) (show w.heap.size<W.heap.size by have:=H.lt;omega)).trans k0;have Hk:=hid (HL.bw X);have Hj:=hid Hb;have P:=hid (show w.heap.size+1<g from by have:=H.lt;omega);clear X HO k0 k1 B1 Hb H7 HL H;go_wp2_with fail;refine(Qel w1).mono ?_;rintro e Y ⟨m,u,rfl,Hu,Hs,Ht,m1,m2,b2⟩;obtain⟨M,V⟩:=zE (Y.alloc (Uj #[.map (Uq m),.map (Uq u)] 124));have b3:Bl w1 M:=V▸b2.alloc b2.size _;have NB:Bx2 M Y.heap.size (.map (Uq m)) (.map (Uq u)):=V▸Bx2.made _ _ _ _;have Hl:=hid NB;have T0:Tre M w1.heap.size (fun z=>if z=[] then Uq (m,u) else Up) (Mk l 0) 0:=by
  have e1:M.heap[m]? =Y.heap[m]? :=V▸Below.heap_alloc _ _ _ m1.lt;have e2:M.heap[u]? =Y.heap[u]? :=V▸Below.heap_alloc _ _ _ m2.lt;refine⟨fun p x hx=> ?_,fun p x hx=> ?_,fun p q x y hx A=> ?_,fun p x hx=> ?_,fun p hp=>rfl,fun p y hp=>oP⟩
  ·split at hx
   ·injection hx with hx;subst hx;exact(m1.same e1).ext (fun y=>oP)
   ·cases hx
  ·split at hx
   ·injection hx with hx;subst hx;exact m2.same e2
   ·cases hx
  ·split at hx
   ·rename_i ep;split at A
    ·rename_i eq;injection hx with hx;injection A with A;subst hx;subst A;exact⟨Hu,fun _=>by rw [ep,eq],fun _=>by rw [ep,eq]⟩
    ·cases A
   ·cases hx
  ·split at hx
   ·injection hx with hx;subst hx;exact⟨Hs,Ht⟩
   ·cases hx
 have Hn:=hid T0;have Hc:=hid (Z.bw b3 Z.lt);have H4:=hid (Qaa HZ b3);have k3:=(b3.cell (p:=(Ub w.heap.size)) (show w.heap.size<w1.heap.size by have:=Z.lt;omega)).trans k2;have Hz:=hid (Hk.bw b3);have H6:=hid b3;have O:=hid (show w.heap.size<=w1.heap.size/\ w.heap.size+1<w1.heap.size/\ g<w1.heap.size/\ w1.heap.size<=M.heap.size from⟨HZ.size,Z.lt,Hj.own.lt,b3.size⟩);clear m1 m2 b2 b3 NB T0 Hu Hs Ht Z Hk k2;go_wp2_with fail;try rw [V]
 clear V k3;go_loopw [21] (fun i wr=>∃k:Nat,k<=l.length/\ i=Ud k/\ Hid (Gt w1.heap.size M wr)/\ (∃N,Hid (Tre wr w1.heap.size N (Mk l k) (9*k))/\ Hid (N []=Uq (m,u))/\ Hid (NkI l k N))) (fun i _=>l.length - (intOf i).toNat);case atStart=>
  refine⟨0,Ux _,rfl,hid (Gt.refl _ _),_,Hn,hid (if_pos rfl),hid (fun z=> ?_)⟩;show ((if z=[] then Uq (m,u) else Up:Option (Nat×Nat)).isSome=true↔_);by_cases e:z=[]
  ·rw [if_pos e];exact⟨fun _=> .inl e,fun _=>rfl⟩
  ·rw [if_neg e];exact⟨fun h=>by simp at h,fun h=>by rcases h with h|⟨j,hj,_⟩;exact absurd h e;omega⟩
 case round=>
  clear Hn;obtain⟨k,hk,rfl,o,N,HT,HN,HI⟩:=hrel;by_cases Hh:k<l.length
  ·rcases (Hz.gt o.out) with h|⟨b,off,rfl,hb,hc⟩
   ·omega
   obtain⟨pa,pc,x0,s,x1,x2,x3,x4⟩:=hc k Hh;have Hg:=H1.2.2.1 k Hh;have S:=hi k;have Hi:=hp k;have i1:(0:Int)<=(k:Int):=UI _;have i2:(k:Int)<(l.length:Int):=oM;obtain⟨y,A⟩:=zE (gL l k);rw [A] at s x0 x1 x2 x3 x4 Hi S Hg;have HS:=hid s;have HE:=hid A;obtain⟨p,fl,r,q,v⟩:=y;dsimp only [LfI] at HS x0 x1 x2 x3 x4 Hi S;have Hm:=hid Hg.1.1;have Ha:=hid (Hl.gt o);clear hc s A Hg;obtain⟨J,Hr⟩:=zE (wr.alloc (Uj #[Uf pa p.length pc,Un fl,Ud r,Ud q,Um v] 85));have b4:Bl wr J:=Hr▸zO _ _;have t:Bx5 J wr.heap.size (Uf pa p.length pc) (Un fl) (Ud r) (Ud q) (Um v):=(by rw [<- Hr];exact⟨oP,oP,oP,oP,oP,fun i=>oP,oP⟩);have I:=Ha.bw b4 Ha.lt;obtain⟨y0,y1,y2,y3,y4⟩:=t.q5;obtain⟨n0,n1⟩:=I.q2;have H2:=hid (HS.bw b4);have Ho:=hid (HT.bw b4);have He:=hid (o.keep b4);clear b4 t I HS HT o Ha;go_wp2_with fail;have Hd:Hid (∀w',Gt w1.heap.size J w' ->(Gt w1.heap.size J w'/\ w'.cell? (Ub Y.heap.size)=Uq (.map (Uq m))/\ w'.cell? (Ua Y.heap.size 1)=Uq (.map (Uq u))/\ w'.cell? (Ub wr.heap.size)=Uq (Uf pa p.length pc)/\ w'.cell? (Ua wr.heap.size 1)=Uq (Un fl)/\ w'.cell? (Ua wr.heap.size 2)=Uq (Ud r)/\ w'.cell? (Ua wr.heap.size 3)=Uq (Ud q)/\ w'.cell? (Ua wr.heap.size 4)=Uq (Um v))):=hid (fun w' hB=>⟨hB,hB.cell n0,hB.cell n1,hB.cell y0,hB.cell y1,hB.cell y2,hB.cell y3,hB.cell y4⟩);refine zA Hd (Gt.of_below zI.drew) (fun qh=> ?_);refine tZ 0 25 ?_;refine tZ 1 26 ?_;refine tZ 2 27 ?_;refine tZ 3 28 ?_;refine tZ 5 30 ?_;refine tZ 6 31 ?_;refine tZ 7 32 ?_;refine tZ 8 33 ?_;refine tZ 9 34 ?_;refine cZ 4 ?_;intro K C;go_simp;refine(Qf6 _ fl _ _ _ _).mono ?_;rintro e w5 ⟨rfl,Q⟩;have E:Bl J w5:=⟨Q.os,Q.tape,Q.output,Q.size,Q.block⟩;refine C.out _ _ (Hd _ (Gt.of_below E)) (fun qh=> ?_);clear C K;try simp only [zP]
   refine cZ 10 ?_;intro K C;go_simp;refine(QqK 0 p pa pc (kd fl) r q v w1.heap.size (9*k) N (Mk l k) (m,u) w5 Hi (fun i=> ?_) (Qqb fl) S.1 S.2 oM ?_ (H2.bw E) (Ho.bw E) HN ?_ (fun z x hz=> ?_)).mono ?_
   ·by_cases H8:i<p.length
    ·have:=(Hm.2.2 i H8).2;omega
    ·rw [Qo2 oM];simp
   ·have h1:=O.2.2.2;have h2:=He.size;have h3:=E.size;omega
   ·have h1:=O.out;have h2:=He.size;have h3:=E.size;omega
   ·have h1:=Ho.lo z x hz;have h2:=O.2.1;exact⟨oM,oM⟩
   rintro e w6 ⟨rfl,g6,_,N',T6,Hq,Hp⟩;have Hw:=hid ((He.keep E).trans g6);have H3:=hid T6;have Hy:=hid Hp;have H0:=hid Hq;refine C.out _ _ (Hd _ ((Gt.of_below E).trans g6)) (fun qh=> ?_);clear C K;try simp only [zP]
   refine zD ?_;clear qh Q E g6 T6 Hq Hp;go_wp2_with fail;go_roundw;case rel=>
    have Ga:=Hm.2.1;refine⟨k+1,Hh,oN,Hw,N',hid ?_,H0,hid (HI.step ?_)⟩
    ·have e:Mk l (k+1)=Qkq (Mk l k) (Qac p (kd fl)) (r,q) v:=(by simp only [Mk];rw [HE.out]);rw [e];exact H3.mono oM
    ·rw [HE.out];exact Hy
   case measure=>exact oE
  ·obtain rfl:k=l.length:=oM;have I:=Hl.gt o;obtain⟨n0,n1⟩:=I.q2;have t:=Hc.gt o;obtain⟨c0,c1,c2⟩:=t.q3;have f0:=t.f 0;have f1:=t.f 1;have f2:=t.f 2;have HC:=hid (t.set (.map (Uq m)) (.map (Uq u)) (.map (Uq g)));have Hf:Below w1.heap.size M wr:=o.bw O.2.2.2;have Hx:=hid (Hj.bw (H6.trans Hf));have H5:=hid (H4.trans (Hf.mono O.1));clear I t Hf;go_wp2_with fail;obtain⟨r0,r1,r2⟩:=HC.q3;refine zF (v:=Ul #[Uo #[.map (Uq m),.map (Uq u),.map (Uq g)],Un true]) (by simp [results,results70,go_sem,r0,r1,r2]) ⟨⟨(m,u),g,D,G,N,w1.heap.size,rfl,?_,oH P,O.1,O.2.2.1,?_,HN,HI⟩,?_⟩
   ·exact((Hx.set _ _ P.out).set _ _ P.out).set _ _ P.out
   ·exact((HT.set _ c0).set _ (Hc.gt o.out|>.set0 _).c1).set _ ((Hc.gt o.out|>.set0 _).set1 _).c2
   ·exact((H5.setCell oP _).setCell oP _).setCell oP _
theorem QaK{ops:Array Oper}{Q:Exit ->Act ->Ur ->Prop}{md:Region.Mode}{S:Ur ->Prop}{d d':Option Tmp}{fuel:Nat}{listed:Array Bool}{a:Act}
  (hd:ops[i]?.map (fun o=>o.dst)=Uq d) (hd':ops[j]?.map (fun o=>o.dst)=Uq d') (hr:Region.ready md ops listed=[i,j])
  (h:∀o,ops[i]? =Uq o ->o.dst=d ->∀K':Act ->Ur ->Prop,Shut (∀a w,S w ->(S w ->wpAnyH P md ops Q S fuel (listed.setIfInBounds i true) a w) ->K' a w) ->if Region.wanted o (yielded ops a.tmps)=true then Oper.wp P o a w K' Q else K' (a.put o.dst undef) w)
  (h':∀o,ops[j]? =Uq o ->o.dst=d' ->∀K':Act ->Ur ->Prop,Shut (∀a w,S w ->(S w ->wpAnyH P md ops Q S fuel (listed.setIfInBounds j true) a w) ->K' a w) ->if Region.wanted o (yielded ops a.tmps)=true then Oper.wp P o a w K' Q else K' (a.put o.dst undef) w):
  wpAnyH P md ops Q S (fuel+1) listed a w:=by
 obtain⟨o,k,q⟩:=Option.map_eq_some_iff.1 hd;obtain⟨u,m,r⟩:=Option.map_eq_some_iff.1 hd';exact wpAnyH_ready hr oP (AllReadyH.cons k (h o k q) (AllReadyH.cons m (h' u m r) AllReadyH.nil))
def mF (o:Option (Nat×Nat)):Option Nat:=o.map Prod.fst
def mS (o:Option (Nat×Nat)):Option Nat:=o.map Prod.snd
theorem Qnq (o:Option (Nat×Nat)):Qbl o=Uo #[.map (mF o),.map (mS o)]:=by cases o<;>rfl
theorem Tre.look{N:List Ky ->Option (Nat×Nat)}{M:List Ky ->Dt ->Option ByteArray}(h:Tre w B N M c)(p:List Ky)(y:Ky){kl:Lit}(hk:keyOf prog 174 (Qa9 y)=Uq kl):
  (Instr.lookup 121 (.map (mF (N p))) (Qa9 y) false).run prog w=.ok (Uo #[.map (mF (N (p++[y]))),.map (mS (N (p++[y])))]) w:=by
 rw [<- Qnq];cases e:N p with
 | some x=>exact(h.kids p x e).look Qa1 underlying121 (QdJ w) hk
 | none=>
  rw [h.up p y e];exact Maps.look_nil false Qa1 underlying121 (QdJ w) hk
theorem toList_inj(h:s.toList=t.toList):s=t:=by
 rw [ByteArray.toList_eq,ByteArray.toList_eq] at h;exact bytes_inj h
theorem Qek:∀l:List UInt8,Op.bytesLess l l=false
 | []=>rfl
 | a::l=>by simp [Op.bytesLess,Qek l]
theorem Qcc:QbI s t=0↔s=t:=by
 unfold QbI ltS eqS;constructor
 ·intro h;split at h
  ·cases h
  ·split at h
   ·rename_i e;exact toList_inj (oU e)
   ·cases h
 ·rintro rfl;rw [if_neg (by rw [Qek];simp),if_pos oP]
theorem QdN:∀{p q:List ByteArray},QaC p q=0↔p=q
 | [],[]=>by simp [QaC]
 | [],_::_=>by simp [QaC]
 | _::_,[]=>by simp [QaC]
 | s::p,t::q=>by
  simp only [QaC];by_cases e:QbI s t=0
  ·rw [if_pos e,QdN];have:=Qcc.1 e;subst this;simp
  ·rw [if_neg e];exact⟨fun h=>absurd h e,fun h=>by injection h with h1 h2;exact absurd (Qcc.2 h1) e⟩
open Go.Lib
structure QaR {α:Type}(f:α ->α ->Int):Prop where
 z:∀x y,f x y=0↔x=y
 neg:∀x y,f x y<0↔0<f y x
 tr:∀x y z,f x y<0 ->f y z<0 ->f x z<0
theorem QaR.irr {α:Type}{f:α ->α ->Int}(h:QaR f)(x:α):f x x=0:=(h.z x x).2 rfl
theorem QaR.swo {α:Type}{f:α ->α ->Int}(h:QaR f):SWO (ltOf f) where
 irrefl x:=by simp [ltOf,h.irr x]
 trans x y z h1 h2:=by simp only [ltOf,decide_eq_true_eq] at*;exact h.tr x y z h1 h2
 ntrans x y z h1 h2:=by
  simp only [ltOf,decide_eq_false_iff_not] at*;intro k;have j:0<=f x y:=oM;have m:0<=f y z:=oM;rcases Int.lt_or_eq_of_le j with j|j
  ·have:=h.tr y x z ((h.neg y x).2 j) k;omega
  ·have:=(h.z x y).1 j.symm;subst this;omega
theorem QaR.int:QaR QaZ:=⟨fun x y=>QeC,fun x y=>by unfold QaZ;split<;>split<;>(try split)<;>(try split)<;>omega,fun x y z h1 h2=>by rw [Qfi] at*;omega⟩
theorem QaR.pair {α β:Type}{f:α ->α ->Int}{g:β ->β ->Int}(hf:QaR f)(hg:QaR g):QaR (fun x y:α×β=>orI (f x.1 y.1) (g x.2 y.2)):=by
 refine⟨fun x y=> ?_,fun x y=> ?_,fun x y z=> ?_⟩
 ·simp only [orI];by_cases e:f x.1 y.1=0
  ·rw [if_pos e,hg.z];exact⟨fun h=>Prod.ext ((hf.z _ _).1 e) h,fun h=>by rw [h]⟩
  ·rw [if_neg e];exact⟨fun h=>absurd h e,fun h=>by rw [h] at e;exact absurd (hf.irr _) e⟩
 ·simp only [orI];by_cases e:f x.1 y.1=0
  ·have r:f y.1 x.1=0:=(hf.z _ _).2 ((hf.z _ _).1 e).symm;rw [if_pos e,if_pos r,hg.neg]
  ·have r:f y.1 x.1≠0:=fun h=>e ((hf.z _ _).2 ((hf.z _ _).1 h).symm);rw [if_neg e,if_neg r,hf.neg]
 ·simp only [orI];intro q k;by_cases e:f x.1 y.1=0
  ·rw [if_pos e] at q;have:=(hf.z _ _).1 e;by_cases j:f y.1 z.1=0
   ·rw [if_pos j] at k;have m:f x.1 z.1=0:=(by rw [this];exact j);rw [if_pos m];exact hg.tr _ _ _ q k
   ·rw [if_neg j] at k;have m:f x.1 z.1≠0:=(by rw [this];exact j);rw [if_neg m,this];exact k
  ·rw [if_neg e] at q;by_cases j:f y.1 z.1=0
   ·have:=(hf.z _ _).1 j;have m:f x.1 z.1≠0:=this▸e;rw [if_neg m,<- this];exact q
   ·rw [if_neg j] at k;have u:=hf.tr _ _ _ q k;rw [if_neg oM];exact u
theorem QhU:∀x y:List UInt8,Op.bytesLess x y=false ->Op.bytesLess y x=false ->x=y
 | [],[],_,_=>rfl
 | [],_::_,h,_=>by simp [Op.bytesLess] at h
 | _::_,[],_,h=>by simp [Op.bytesLess] at h
 | a::x,b::y,h,h'=>by
  simp only [Op.bytesLess,Bool.or_eq_false_iff,decide_eq_false_iff_not,Bool.and_eq_false_iff] at h h';have e:a=b:=by
   have k:=h.1;have m:=h'.1;rcases Nat.lt_trichotomy a.toNat b.toNat with j|j|j
   ·exact absurd (UInt8.lt_iff_toNat_lt.2 j) k
   ·exact UInt8.toNat_inj.1 j
   ·exact absurd (UInt8.lt_iff_toNat_lt.2 j) m
  subst e;rw [QhU x y (oU h.2) (oU h'.2)]
theorem QhT:∀x y:List UInt8,Op.bytesLess x y=true ->Op.bytesLess y x=false
 | [],[],_=>rfl
 | [],_::_,_=>rfl
 | _::_,[],h=>by simp [Op.bytesLess] at h
 | a::x,b::y,h=>by
  simp only [Op.bytesLess,Bool.or_eq_true,decide_eq_true_eq,Bool.and_eq_true,beq_iff_eq] at h;simp only [Op.bytesLess,Bool.or_eq_false_iff,decide_eq_false_iff_not,Bool.and_eq_false_iff];rcases h with h|⟨rfl,h⟩
  ·have j:=UInt8.lt_iff_toNat_lt.1 h;refine⟨fun h2=>oH (UInt8.lt_iff_toNat_lt.1 h2),.inl ?_⟩;simp only [beq_eq_false_iff_ne];intro e;subst e;omega
  ·exact⟨fun h2=>oH (UInt8.lt_iff_toNat_lt.1 h2),.inr (QhT x y h)⟩
theorem QeS:∀x y z:List UInt8,Op.bytesLess x y=true ->Op.bytesLess y z=true ->Op.bytesLess x z=true
 | _,_,[],_,h=>by cases ‹List UInt8›<;>simp [Op.bytesLess] at h
 | [],_,_::_,_,_=>rfl
 | _::_,[],_,h,_=>by simp [Op.bytesLess] at h
 | a::x,b::y,c::z,h,j=>by
  simp only [Op.bytesLess,Bool.or_eq_true,decide_eq_true_eq,Bool.and_eq_true,beq_iff_eq] at h j ⊢;rcases h with h|⟨rfl,h⟩
  ·rcases j with j|⟨rfl,j⟩
   ·exact .inl (UInt8.lt_iff_toNat_lt.2 (oJ (UInt8.lt_iff_toNat_lt.1 h) (UInt8.lt_iff_toNat_lt.1 j)))
   ·exact .inl h
  ·rcases j with j|⟨rfl,j⟩
   ·exact .inl j
   ·exact .inr ⟨rfl,QeS x y z h j⟩
theorem Qfl:QbI s t<0↔Op.bytesLess s.toList t.toList=true:=by
 unfold QbI ltS eqS;split
 ·rename_i h;exact⟨fun _=>h,fun _=>oD⟩
 ·rename_i h;split<;>exact⟨fun h2=>oM,fun h2=>absurd h2 h⟩
theorem QaR.str:QaR QbI:=by
 refine⟨fun x y=>Qcc,fun x y=> ?_,fun x y z h1 h2=> ?_⟩
 ·rw [Qfl];constructor
  ·intro h;have:=QhT _ _ h;unfold QbI ltS eqS;rw [if_neg (by rw [this];simp),if_neg]
   ·decide
   ·intro e;rw [toList_inj (by simpa using e:y.toList=x.toList),Qek] at h;cases h
  ·intro h;cases e:Op.bytesLess x.toList y.toList with
   | true=>rfl
   | false=>
    exfalso;cases e':Op.bytesLess y.toList x.toList with
    | true=>have:=Qfl.2 e';omega
    | false=>rw [Qcc.2 (toList_inj (QhU _ _ e' e))] at h;omega
 ·rw [Qfl] at*;exact QeS _ _ _ h1 h2
def QcR (x y:Ky):Int:=orI (QbI x.1 y.1) (QaZ x.2 y.2)
def QbC (x y:Dt):Int:=orI (QaZ x.1 y.1) (QaZ x.2 y.2)
theorem QaR.key:QaR QcR:=QaR.str.pair QaR.int
theorem QaR.dot:QaR QbC:=QaR.int.pair QaR.int
theorem QaR.uniq {α:Type}{f:α ->α ->Int}(h:QaR f):∀{l m:List α},l.Pairwise (fun x y=>f x y<0) ->m.Pairwise (fun x y=>f x y<0) ->(∀x,x∈l↔x∈m) ->l=m
 | [],[],_,_,_=>rfl
 | [],y::m,_,_,hm=>by have:=(hm y).2 oP;simp at this
 | x::l,[],_,_,hm=>by have:=(hm x).1 oP;simp at this
 | x::l,y::m,hl,hm',hm=>by
  have q:=List.pairwise_cons.1 hl;have r:=List.pairwise_cons.1 hm';have e:x=y:=by
   rcases List.mem_cons.1 ((hm x).1 oP) with e|e
   ·exact e
   ·rcases List.mem_cons.1 ((hm y).2 oP) with k|k
    ·exact k.symm
    ·have v:=r.1 x e;have g:=q.1 y k;have:=h.tr _ _ _ v g;rw [h.irr] at this;omega
  subst e;congr 1;refine h.uniq q.2 r.2 fun z=> ?_;have u:=hm z;simp only [List.mem_cons] at u;constructor
  ·intro j;rcases u.1 (.inr j) with e|e
   ·subst e;have:=q.1 _ j;rw [h.irr] at this;omega
   ·exact e
  ·intro j;rcases u.2 (.inr j) with e|e
   ·subst e;have:=r.1 _ j;rw [h.irr] at this;omega
   ·exact e
theorem QaR.rises {α:Type} [Inhabited α]{f:α ->α ->Int}(h:QaR f){d:Array α}(hs:SortedIn (ltOf f) 0 d.size d)(hn:d.toList.Nodup):d.toList.Pairwise (fun x y=>f x y<0):=by
 rw [Vt];intro i j hi m q;have k:=hs i j oM q (oU m);have g:i<d.size:=oU hi;have t:j<d.size:=oU m;have r:d[i]! =d[i]:=getElem!_pos d i g;have u:d[j]! =d[j]:=getElem!_pos d j t;rw [r,u] at k;simp only [ltOf,decide_eq_false_iff_not] at k;have o:d[i]≠d[j]:=by
  have:=(List.nodup_iff_pairwise_ne.1 hn);rw [Vt] at this;simpa using this i j hi m q
 have b:f d[i] d[j]≠0:=fun e=>o ((h.z _ _).1 e);have v:=h.neg (d[j]) (d[i]);have p:¬0<f d[i] d[j]:=fun e=>k (v.2 e);have:f d[i] d[j]<0:=oM;simpa using this
def Bw (w w':Ur):Prop:=Bl w w'/\ w.drawn<=w'.drawn
theorem Bw.grown(h:Bw w w'):∃q r,w'=grow (w.drewN q) r:=by
 obtain⟨u,v⟩:=h;refine⟨w'.drawn - w.drawn,w'.heap.extract w.heap.size w'.heap.size,?_⟩;obtain⟨o,s,z,r,out⟩:=w;obtain⟨y,A,g,b,p⟩:=w';obtain⟨j,k,b3,b4,m⟩:=u;simp only at j k b3 b4 m v;subst j;subst k;subst b3;simp only [grow,World.drewN,World.mk.injEq,and_true,true_and];refine⟨?_,oM⟩;apply Array.ext_getElem?;intro i;rw [Array.getElem?_append];split
 ·rename_i hi;exact m i hi
 ·rename_i hi;rw [Array.getElem?_extract];by_cases t:i<y.size
  ·rw [if_pos oM];congr 1;omega
  ·rw [if_neg oM];exact Array.getElem?_eq_none oM
theorem QiN {α:Type}{cs:Array α}(h:cs.size=2):∃c0 c1,cs=#[c0,c1]:=by
 obtain⟨l⟩:=cs;match l,h with
 | [c0,c1],_=>exact⟨c0,c1,rfl⟩
theorem QcY{kl:Lit}(h:keyOf prog 174 v=Uq kl):∃x,v=Qa9 x:=by
 unfold keyOf at h;rw [underlying174] at h;simp only [QoE,Bool.true_and] at h;have p:0<prog.types.size:=of_decide_eq_true oK;obtain⟨m,o⟩:∃m,prog.types.size=m+1:=⟨prog.types.size - 1,oM⟩;rw [o] at h;have z:prog.cellsOf 174=2:=oK;have g:prog.cellsOf 3=1:=oK;have t:prog.cellsOf 9=1:=oK;cases v<;>simp [Value.formed,underlying174,z,Program.keyLits,underlying3,underlying9,g,t,Value.cells] at h;obtain⟨u,a,⟨i,h⟩,b⟩:=h;clear i b;obtain⟨y,j,rfl⟩:=QiN u;clear u;cases y<;>simp at h;rename_i s;by_cases r:s.size<=maxLen
 ·cases j<;>simp [r] at h;rename_i k n;by_cases q:k=Uh/\ (Lit.int Uh n).wf=true
  ·exact⟨(s,n),by rw [q.1];rfl⟩
  ·rw [if_neg q] at h;simp at h
 ·cases j<;>simp [r] at h
theorem Qgs{kl:Lit}(h:keyOf prog 83 v=Uq kl):∃x,v=dtV x:=by
 unfold keyOf at h;rw [underlying83] at h;simp only [QmE,Bool.true_and] at h;have b:0<prog.types.size:=of_decide_eq_true oK;obtain⟨m,t⟩:∃m,prog.types.size=m+1:=⟨prog.types.size - 1,oM⟩;rw [t] at h;have z:prog.cellsOf 83=2:=oK;have g:prog.cellsOf 3=1:=oK;cases v<;>simp [Value.formed,underlying83,z,Program.keyLits,underlying3,g,Value.cells] at h;obtain⟨r,a,⟨o,h⟩,i⟩:=h;clear o i;obtain⟨u,y,rfl⟩:=QiN r;clear r;cases u<;>simp at h;rename_i k n;by_cases j:k=Uh/\ (Lit.int Uh n).wf=true
 ·rw [if_pos j] at h;cases y<;>simp at h;rename_i k' n';by_cases q:k'=Uh/\ (Lit.int Uh n').wf=true
  ·exact⟨(n,n'),by rw [j.1,q.1];rfl⟩
  ·rw [if_neg q] at h;simp at h
 ·rw [if_neg j] at h;simp at h
structure Qdh {α β:Type}(t:TypeId)(kv:α ->Value)(f:α ->Option β)(left:Lit ->Bool)(ss:List α):Prop where
 nd:ss.Nodup
 old:∀x∈ss,f x≠Up/\∀kl,keyOf prog t (kv x)=Uq kl ->left kl=false
 all:∀x,f x≠Up ->x∈ss \/∀kl,keyOf prog t (kv x)=Uq kl ->left kl=true
def Qc8 {α β:Type}(f:α ->Option β)(ss:List α):Prop:=ss.Nodup/\∀x,x∈ss↔f x≠Up
section
variable {α β : Type} {w : Ur} {t : TypeId} {kv : α -> Value} {vo : Option β -> Value} {b c : Nat} {f : α -> Option β} {D : DataW Value} {left : Lit -> Bool} {ss : List α}
theorem Qdh.start (h:FM w t kv vo b c f D):Qdh t kv f (has D) ([]:List α):=by
 refine⟨List.nodup_nil,fun x hx=>absurd hx oP,fun x hx=>Or.inr fun kl hk=> ?_⟩;rw [(h.at' x kl hk).1];cases e:f x with
 | none=>exact absurd e hx
 | some y=>rfl
theorem Qdh.step (hC:Qdh t kv f left ss)(h:FM w t kv vo b c f D)(K:Keyed prog t)(hi:∀x y,kv x=kv y ->x=y){x:α}{kl:Lit}{y:DataW Value}(hk:keyOf prog t (kv x)=Uq kl)(hl:left kl=true)(hat:∀zd,D.atKey kl zd=y):
  Qdh t kv f (fun z=>left z && !z.sameKey kl) (ss++[x]):=by
 have q:x ∉ ss:=fun hm=>by have:=(hC.old x hm).2 kl hk;rw [hl] at this;cases this
 have m:f x≠Up:=fun e=>by
  have k:=has_true_of_atKey hat;rw [(h.at' x kl hk).1,e] at k;cases k
 refine⟨?_,fun z j=> ?_,fun z j=> ?_⟩
 ·rw [List.nodup_append];exact⟨hC.nd,oP,fun a ha b hb=>by rw [UF] at hb;subst hb;exact fun e=>q (e▸ha)⟩
 ·rcases List.mem_append.1 j with j|j
  ·refine⟨(hC.old z j).1,fun kl' hk'=> ?_⟩;show (left kl' && !kl'.sameKey kl)=false;rw [(hC.old z j).2 kl' hk'];rfl
  ·rw [UF] at j;subst j;refine⟨m,fun kl' hk'=> ?_⟩;rw [hk] at hk';injection hk' with hk';subst hk';show (left kl && !kl.sameKey kl)=false;rw [WideAt.sameKey_self (K.key hk)];simp
 ·by_cases e:z=x
  ·subst e;exact .inl oP
  ·rcases hC.all z j with k|k
   ·exact .inl (List.mem_append.2 (.inl k))
   ·refine .inr fun kl' hk'=> ?_;show (left kl' && !kl'.sameKey kl)=true;rw [k kl' hk',sameKey_ne (fun e2=>e (hi _ _ (by subst e2;exact K.inj hk' hk)))];rfl
theorem Qdh.done (hC:Qdh t kv f left ss)(h:FM w t kv vo b c f D)(hl:∀j,left j=false):Qc8 f ss:=
 ⟨hC.nd,fun x=>⟨fun hx=>(hC.old x hx).1,fun hx=>by
  rcases hC.all x hx with k|k
  ·exact k
  ·obtain⟨j,m⟩:=h.ok x hx;have:=k j m;rw [hl j] at this;cases this⟩⟩
end
theorem QhA:∀p q:List ByteArray,QaC p q<0↔0<QaC q p
 | [],[]=>by simp [QaC]
 | [],_::_=>by simp [QaC]
 | _::_,[]=>by simp [QaC]
 | s::p,t::q=>by
  simp only [QaC];by_cases e:QbI s t=0
  ·have j:QbI t s=0:=Qcc.2 (Qcc.1 e).symm;rw [if_pos e,if_pos j];exact QhA p q
  ·have j:QbI t s≠0:=fun h=>e (Qcc.2 (Qcc.1 h).symm);rw [if_neg e,if_neg j];exact QaR.str.neg s t
theorem QiS:∀p q r:List ByteArray,QaC p q<0 ->QaC q r<0 ->QaC p r<0
 | [],[],_,h,_=>by simp [QaC] at h
 | [],_::_,[],_,h=>by simp [QaC] at h
 | [],_::_,_::_,_,_=>by simp [QaC]
 | _::_,[],_,h,_=>by simp [QaC] at h
 | _::_,_::_,[],_,h=>by simp [QaC] at h
 | s::p,t::q,u::r,h,h'=>by
  simp only [QaC] at*;by_cases e:QbI s t=0
  ·rw [if_pos e] at h;have:=Qcc.1 e;subst this;by_cases j:QbI s u=0
   ·rw [if_pos j] at h' ⊢;exact QiS p q r h h'
   ·rw [if_neg j] at h' ⊢;exact h'
  ·rw [if_neg e] at h;by_cases j:QbI t u=0
   ·have:=Qcc.1 j;subst this;rw [if_neg e];exact h
   ·rw [if_neg j] at h';have k:=QaR.str.tr s t u h h';rw [if_neg oM];exact k
theorem QaR.path:QaR QaC:=⟨fun _ _=>QdN,QhA,QiS⟩
theorem QgL {x y z:Lf}(h:QaL x y<0)(h':QaL y z<0):QaL x z<0:=
 (QaR.path.pair (QaR.int.pair QaR.dot)).tr (x.p,(kd x.fl,(x.r,x.q))) (y.p,(kd y.fl,(y.r,y.q))) (z.p,(kd z.fl,(z.r,z.q))) h h'
theorem QbT.lt{l:List Lf}(h:QbT R F T n l k):∀j,i<j ->j<k ->QaL (gL l i) (gL l j)<0
 | 0,h1,_=>oM
 | j+1,h1,h2=>by
  have m:=(h (j+1) h2).2.2 oM;simp only [Uy] at m;by_cases e:i=j
  ·subst e;exact m
  ·exact QgL (h.lt j oM oM) m
theorem Qkl (p:List ByteArray):Qac p 3=(UW p.length).map fun i=>(gS p i,3):=by
 unfold Qac;congr 1;funext i;split<;>rfl
theorem Qji {q:List ByteArray}(h:p <+:q)(hi:i<p.length):gS q i=gS p i:=by
 obtain⟨r,rfl⟩:=h;simp [gS,UA,List.getElem?_append,hi]
theorem Qlx {q:List ByteArray}{k:Int}(h:p <+:q)(hl:p.length<q.length):(Qac q k).take p.length=Qac p 3:=by
 apply List.ext_getElem?;intro i;by_cases hi:i<p.length
 ·rw [Vu hi,Qb4 oM,Qkl,if_pos oM,Qji h hi];simp [hi]
 ·rw [List.getElem?_take_eq_none oM,List.getElem?_eq_none (by rw [QaM];omega)]
noncomputable def nx (p:List ByteArray)(x:Lf):Option Ky:=if yes (p <+:x.p/\ p.length<x.p.length)=true then Uq (Qav x.p (kd x.fl) p.length) else Up
theorem QhX{x:Lf}:Qac p 3++[y] <+:Way x↔nx p x=Uq y:=by
 unfold nx Way;constructor
 ·intro h;have z:p.length+1<=x.p.length:=by have:=h.length_le;simpa [QaM] using this
  have j:=List.prefix_iff_eq_take.1 h;simp only [UB,QaM,Vq,List.length_nil] at j;rw [Qdy oM] at j;have m:=List.append_inj' j rfl;have v:p <+:x.p:=by
   have r:p=x.p.take p.length:=by
    refine QlF oS fun i hi=> ?_;have:=congrArg (fun l=>l[i]?) m.1;rw [Vu hi,Qb4 hi,Qb4 (k:=kd x.fl) (show i<x.p.length by omega)] at this;injection this with this;rw [(Prod.mk.inj this).1];simp [gS,UA,Vu hi]
   rw [r];exact Vv _ _
  rw [if_pos (Qaj ⟨v,oM⟩)];have q:=m.2;simp only [List.cons.injEq,and_true] at q;rw [q];rfl
 ·intro h;by_cases e:p <+:x.p/\ p.length<x.p.length
  ·rw [if_pos (Qaj e)] at h;injection h with h;have:=Qdy (k:=kd x.fl) e.2;rw [Qlx e.1 e.2] at this;have u:(gS x.p p.length,if p.length+1<x.p.length then 3 else kd x.fl)=y:=h;rw [u] at this;rw [<- this];exact Vv _ _
  ·rw [Qag e] at h;simp at h
theorem Qh9:∀(p a b:List ByteArray),QaC (p++a) (p++b)=QaC a b
 | [],_,_=>rfl
 | s::p,a,b=>by
  simp only [List.cons_append,QaC];rw [if_pos (Qcc.2 rfl)];exact Qh9 p a b
theorem Qcu{a b:Lf}{z:Ky}(h:QaL a b<0)(ha:nx p a=Uq y)(hb:nx p b=Uq z):QcR y z<=0:=by
 unfold nx at ha hb;by_cases q:p <+:a.p/\ p.length<a.p.length
 ·by_cases r:p <+:b.p/\ p.length<b.p.length
  ·rw [if_pos (Qaj q)] at ha;rw [if_pos (Qaj r)] at hb;injection ha with ha;injection hb with hb;obtain⟨⟨k,o⟩,A⟩:=q;obtain⟨⟨j,i⟩,E⟩:=r;cases k with
   | nil=>rw [<- o] at A;simp at A
   | cons s k=>
    cases j with
    | nil=>rw [<- i] at E;simp at E
    | cons t j=>
     have O:y=(s,if k=[] then kd a.fl else 3):=by
      rw [<- ha];unfold Qav;rw [<- o];have g:gS (p++s::k) p.length=s:=(by simp [gS,UA]);rw [g];cases k<;>simp
     have Q:z=(t,if j=[] then kd b.fl else 3):=by
      rw [<- hb];unfold Qav;rw [<- i];have g:gS (p++t::j) p.length=t:=(by simp [gS,UA]);rw [g];cases j<;>simp
     unfold QaL at h;rw [<- o,<- i,Qh9] at h;rw [O,Q];unfold QcR;simp only [QaC] at h;by_cases m:QbI s t=0
     ·rw [if_pos m] at h;simp only [orI,m,if_true];have V:kd b.fl<=3:=(by cases b.fl<;>decide);have U:kd a.fl<=3:=(by cases a.fl<;>decide);cases k with
      | nil=>
       cases j with
       | nil=>
        simp only [if_true];simp only [QaC,orI,if_true] at h;by_cases M:QaZ (kd a.fl) (kd b.fl)=0
        ·omega
        ·rw [if_neg M] at h;omega
       | cons u j=>
        simp only [if_true,reduceCtorEq,if_false];unfold QaZ;split
        ·omega
        ·split<;>omega
      | cons u k=>
       cases j with
       | nil=>simp [QaC,orI] at h
       | cons v j=>simp [QaZ]
     ·rw [if_neg m] at h;simp only [orI,m,if_false] at h ⊢;omega
  ·rw [Qag r] at hb;simp at hb
 ·rw [Qag q] at ha;simp at ha
noncomputable def kS (l:List Lf)(p:List ByteArray):Nat ->List Ky
 | 0=>[]
 | k+1=>match nx p (gL l k) with
  | none=>kS l p k
  | some y=>if yes ((kS l p k).getLast? =Uq y)=true then kS l p k else kS l p k++[y]
theorem Qdp {l:List Lf}(h:nx p (gL l k)=Up):kS l p (k+1)=kS l p k:=by simp only [kS,h]
theorem Qdq {l:List Lf}(h:nx p (gL l k)=Uq y):kS l p (k+1)=if yes ((kS l p k).getLast? =Uq y)=true then kS l p k else kS l p k++[y]:=by simp only [kS,h]
theorem QeP (l:List Lf)(p:List ByteArray):∀k,(kS l p k).length<=k
 | 0=>by simp [kS]
 | k+1=>by
  have j:=QeP l p k;cases h:nx p (gL l k) with
  | none=>rw [Qdp h];omega
  | some y=>rw [Qdq h];split<;>simp<;>omega
theorem Qeh {R F T:Nat ->Int}{n:Nat}{l:List Lf}(p:List ByteArray)(h:QbT R F T n l l.length):∀k,k<=l.length ->(kS l p k).Pairwise (fun x y=>QcR x y<0)/\∀y,y∈kS l p k↔∃j,j<k/\ nx p (gL l j)=Uq y
 | 0,_=>⟨List.Pairwise.nil,fun y=>by simp [kS]⟩
 | k+1,hk=>by
  obtain⟨r,i⟩:=Qeh p h k oM;have t:∀y,(∃j,j<k+1/\ nx p (gL l j)=Uq y)↔y∈kS l p k \/nx p (gL l k)=Uq y:=fun y=>by
   rw [i];constructor
   ·rintro⟨j,v,e⟩;by_cases s:j=k
    ·subst s;exact .inr e
    ·exact .inl ⟨j,oM,e⟩
   ·rintro(⟨j,v,e⟩|e)
    ·exact⟨j,oM,e⟩
    ·exact⟨k,oM,e⟩
  cases hn:nx p (gL l k) with
  | none=>
   rw [Qdp hn];refine⟨r,fun y=> ?_⟩;rw [t y,hn];simp
  | some z=>
   have g:∀y∈kS l p k,QcR y z<=0:=fun y hy=>by
    obtain⟨j,v,e⟩:=(i y).1 hy;exact Qcu (h.lt k v oM) e hn
   rw [Qdq hn];by_cases e:(kS l p k).getLast? =Uq z
   ·rw [if_pos (Qaj e)];refine⟨r,fun y=> ?_⟩;rw [t y,hn];constructor
    ·exact .inl
    ·rintro(m|m)
     ·exact m
     ·injection m with m;subst m;exact Vw e
   ·rw [if_neg (by rw [Qag e];simp)];have q:z ∉ kS l p k:=fun q=>by
     obtain⟨b,u,E⟩:∃b u,kS l p k=b++[u]:=by
      refine⟨(kS l p k).dropLast,(kS l p k).getLast (Vk q),(List.dropLast_concat_getLast _).symm⟩
     rw [E] at q g e r;simp at e;rcases List.mem_append.1 q with m|m
     ·have o:=(List.pairwise_append.1 r).2.2 z m u oP;have M:=g u oP;have A:=QaR.key.neg z u;have:0<QcR u z:=A.1 o;omega
     ·simp at m;exact e m.symm
    refine⟨List.pairwise_append.2 ⟨r,UZ _ _,fun x hx y hy=> ?_⟩,fun y=> ?_⟩
    ·simp at hy;subst hy;have m:=g x hx;have o:QcR x y≠0:=fun e=>q ((QaR.key.z x y).1 e▸hx);omega
    ·rw [t y,hn];simp only [UY,UF,Option.some.injEq];exact⟨fun h=>h.imp id Eq.symm,fun h=>h.imp id Eq.symm⟩
theorem Qjv{l:List Lf}{N:List Ky ->Option (Nat×Nat)}{ts:List Ky}(h:QbT R F T n l l.length)(hI:NkI l l.length N)(h1:ts.Pairwise (fun x y=>QcR x y<0))(h2:∀x,x∈ts↔N (Qac p 3++[x])≠Up):ts=kS l p l.length:=by
 obtain⟨m,q⟩:=Qeh p h l.length zL;refine QaR.key.uniq h1 m fun x=> ?_;rw [h2,q];have:=hI (Qac p 3++[x]);rw [Option.isSome_iff_ne_none] at this;rw [this];simp only [List.append_eq_nil_iff,List.cons_ne_self,and_false,false_or,reduceCtorEq];constructor
 ·rintro⟨j,k,e⟩;exact⟨j,k,QhX.1 e⟩
 ·rintro⟨j,k,e⟩;exact⟨j,k,QhX.2 e⟩
noncomputable def rV (l:List Lf)(p:List ByteArray):Nat ->List ByteArray
 | 0=>[]
 | k+1=>if yes ((gL l k).fl=false/\ (gL l k).p=p)=true then rV l p k++[(gL l k).v] else rV l p k
theorem Qpc {l:List Lf}{p:List ByteArray}{s:ByteArray}:∀{k:Nat},s∈rV l p k↔∃j,j<k/\ (gL l j).fl=false/\ (gL l j).p=p/\ (gL l j).v=s
 | 0=>by simp [rV]
 | k+1=>by
  have h:=Qpc (l:=l) (p:=p) (s:=s) (k:=k);simp only [rV];by_cases e:(gL l k).fl=false/\ (gL l k).p=p
  ·rw [if_pos (Qaj e),UY,h,UF];constructor
   ·rintro(⟨j,z,r⟩|r)
    ·exact⟨j,oM,r⟩
    ·exact⟨k,oM,e.1,e.2,r.symm⟩
   ·rintro⟨j,z,m,q,u⟩;by_cases y:j=k
    ·subst y;exact .inr u.symm
    ·exact .inl ⟨j,oM,m,q,u⟩
  ·rw [if_neg (by rw [Qag e];simp),h];constructor
   ·rintro⟨j,z,r⟩;exact⟨j,oM,r⟩
   ·rintro⟨j,z,m,q,u⟩;by_cases y:j=k
    ·subst y;exact absurd ⟨m,q⟩ e
    ·exact⟨j,oM,m,q,u⟩
theorem QiH {l:List Lf}{p:List Ky}{d:Dt}{s:ByteArray}:∀{k:Nat},Dis l k ->(Mk l k p d=Uq s↔∃j,j<k/\ Way (gL l j)=p/\ ((gL l j).r,(gL l j).q)=d/\ (gL l j).v=s)
 | 0,_=>⟨fun h=>by simp [Mk] at h,fun⟨j,m,_⟩=>oM⟩
 | k+1,hd=>by
  have o:=QiH (l:=l) (p:=p) (d:=d) (s:=s) (k:=k) (fun i hi j m=>hd i oM j m);simp only [Mk];by_cases e:p=Qac (gL l k).p (kd (gL l k).fl)
  ·rw [e,QbH,<- e];by_cases t:d=((gL l k).r,(gL l k).q)
   ·rw [t,Qaw];constructor
    ·intro h;injection h with h;exact⟨k,oM,e.symm,rfl,h⟩
    ·rintro⟨j,m,z,u,g⟩;by_cases y:j=k
     ·subst y;rw [g]
     ·have:=hd k oM j oM;exact absurd ⟨congrArg Prod.fst u,congrArg Prod.snd u⟩ this
   ·rw [Qam _ _ t,o];constructor
    ·rintro⟨j,m,r⟩;exact⟨j,oM,r⟩
    ·rintro⟨j,m,z,u,g⟩;by_cases y:j=k
     ·subst y;exact absurd u.symm t
     ·exact⟨j,oM,z,u,g⟩
  ·rw [Qbf _ _ _ e,o];constructor
   ·rintro⟨j,m,r⟩;exact⟨j,oM,r⟩
   ·rintro⟨j,m,z,u,g⟩;by_cases y:j=k
    ·subst y;exact absurd z.symm e
    ·exact⟨j,oM,z,u,g⟩
noncomputable def dsK (l:List Lf)(p:List ByteArray)(y:Ky):Nat ->List Lf
 | 0=>[]
 | k+1=>if yes (nx p (gL l k)=Uq y)=true then dsK l p y k++[gL l k] else dsK l p y k
theorem QbK {l:List Lf}(h:nx p (gL l k)=Uq y):dsK l p y (k+1)=dsK l p y k++[gL l k]:=by simp only [dsK];rw [if_pos (Qaj h)]
theorem Qcf {l:List Lf}(h:nx p (gL l k)≠Uq y):dsK l p y (k+1)=dsK l p y k:=by simp only [dsK];rw [if_neg (by rw [Qag h];simp)]
theorem Qbd {l:List Lf}{p:List ByteArray}{y:Ky}{x:Lf}:∀{k:Nat},x∈dsK l p y k↔∃j,j<k/\ nx p (gL l j)=Uq y/\ gL l j=x
 | 0=>by simp [dsK]
 | k+1=>by
  have v:=Qbd (l:=l) (p:=p) (y:=y) (x:=x) (k:=k);by_cases h:nx p (gL l k)=Uq y
  ·rw [QbK h,UY,UF,v];constructor
   ·rintro(⟨j,u,e⟩|rfl)
    ·exact⟨j,oM,e⟩
    ·exact⟨k,oM,h,rfl⟩
   ·rintro⟨j,u,m,q⟩;by_cases r:j=k
    ·subst r;exact .inr q.symm
    ·exact .inl ⟨j,oM,m,q⟩
  ·rw [Qcf h,v];constructor
   ·rintro⟨j,u,e⟩;exact⟨j,oM,e⟩
   ·rintro⟨j,u,m,q⟩;by_cases r:j=k
    ·subst r;exact absurd m h
    ·exact⟨j,oM,m,q⟩
theorem QgO (l:List Lf)(p:List ByteArray)(y:Ky):∀k,(dsK l p y k).length<=k
 | 0=>by simp [dsK]
 | k+1=>by
  have j:=QgO l p y k;by_cases h:nx p (gL l k)=Uq y
  ·rw [QbK h];simp;exact j
  ·rw [Qcf h];omega
def lfB (k:Int)(x:Lf):List Int:=uvF 9 x.r.toNat++(uvF 9 x.q.toNat++if k=1 then Qae x.v else [])
def mB (ls:List Lf)(k:Int):List Int:=uvF 9 ls.length++ls.flatMap (lfB k)
noncomputable def tB (l:List Lf):Nat ->List ByteArray ->List Int
 | 0,_=>[]
 | f+1,p=>uvF 9 (kS l p l.length).length++(kS l p l.length).flatMap fun y=>Qae y.1++([y.2]++if y.2=3 then tB l f (p++[y.1]) else mB (dsK l p y l.length) y.2)
noncomputable def kB (l:List Lf)(f:Nat)(p:List ByteArray)(y:Ky):List Int:=Qae y.1++([y.2]++if y.2=3 then tB l f (p++[y.1]) else mB (dsK l p y l.length) y.2)
theorem Qg8 (l:List Lf)(f:Nat)(p:List ByteArray):tB l (f+1) p=uvF 9 (kS l p l.length).length++(kS l p l.length).flatMap (kB l f p):=rfl
theorem Qb2{x:Lf}:nx p x=Uq y↔(p <+:x.p/\ p.length<x.p.length)/\ Qav x.p (kd x.fl) p.length=y:=by
 unfold nx;by_cases h:p <+:x.p/\ p.length<x.p.length
 ·rw [if_pos (Qaj h)];simp [h]
 ·rw [if_neg (by rw [Qag h];simp)];simp [h]
theorem Qf9{x:Lf}:nx p x≠Up↔p <+:x.p/\ p.length<x.p.length:=by
 unfold nx;by_cases h:p <+:x.p/\ p.length<x.p.length
 ·rw [if_pos (Qaj h)];simp [h]
 ·rw [if_neg (by rw [Qag h];simp)];simp [h]
theorem QgZ (b:Bool):kd b=1 \/kd b=2:=by cases b<;>simp [kd]
theorem Qia {q:List ByteArray}:p++[s] <+:q↔(p <+:q/\ p.length<q.length)/\ gS q p.length=s:=by
 constructor
 ·rintro⟨r,rfl⟩;refine⟨⟨⟨s::r,oP⟩,oP⟩,?_⟩;simp [gS,UA]
 ·rintro⟨⟨⟨r,rfl⟩,h⟩,e⟩;cases r with
  | nil=>simp at h
  | cons t r=>
   simp [gS,UA] at e;subst e;exact⟨r,oP⟩
theorem Qem{x:Lf}:nx p x=Uq (s,3)↔nx (p++[s]) x≠Up:=by
 rw [Qb2,Qf9,Qia];unfold Qav;constructor
 ·rintro⟨h,e⟩;have q:=congrArg Prod.fst e;have j:=congrArg Prod.snd e;dsimp only at q j;by_cases m:p.length+1<x.p.length
  ·exact⟨⟨h,q⟩,oU m⟩
  ·rw [if_neg m] at j;rcases QgZ x.fl with k|k<;>rw [k] at j<;>exact absurd j oD
 ·rintro⟨⟨h,e⟩,m⟩;refine⟨h,?_⟩;rw [if_pos (oU m),e]
theorem Qhh{x:Lf}(hy:y.2≠3):nx p x=Uq y↔Way x=Qac p 3++[y]:=by
 rw [<- QhX];constructor
 ·intro h;have k:=QhX.1 h;rw [Qb2] at k;obtain⟨⟨_,m⟩,e⟩:=k;have j:=congrArg Prod.snd e;unfold Qav at j;dsimp only at j;have q:¬p.length+1<x.p.length:=fun hh=>by rw [if_pos hh] at j;exact hy j.symm
  refine(h.eq_of_length ?_).symm;simp [Way,QaM];omega
 ·intro h;rw [h];exact List.prefix_refl _
theorem Qb9{x:Lf}(hy:y.2≠3)(h:nx p x=Uq y):x.p=p++[y.1]/\ kd x.fl=y.2:=by
 rw [Qb2] at h;obtain⟨⟨r,m⟩,e⟩:=h;have k:=congrArg Prod.fst e;have j:=congrArg Prod.snd e;unfold Qav at k j;dsimp only at k j;have q:¬p.length+1<x.p.length:=fun hh=>by rw [if_pos hh] at j;exact hy j.symm
 rw [if_neg q] at j;exact⟨((Qia.2 ⟨⟨r,m⟩,k⟩).eq_of_length oS).symm,j⟩
theorem Qjw {a b:Bool}(h:kd a=kd b):a=b:=by cases a<;>cases b<;>simp [kd] at h ⊢
theorem QeF {R F T:Nat ->Int}{n:Nat}{l:List Lf}{p:List ByteArray}{y:Ky}(h:QbT R F T n l l.length)(hy:y.2≠3):∀k,k<=l.length ->((dsK l p y k).map fun x=>((x.r,x.q):Dt)).Pairwise (fun x y=>QbC x y<0)
 | 0,_=>by simp [dsK]
 | k+1,hk=>by
  have u:=QeF (p:=p) h hy k oM;by_cases e:nx p (gL l k)=Uq y
  ·rw [QbK e,UC];refine List.pairwise_append.2 ⟨u,oP,fun a ha b hb=> ?_⟩;simp only [UD,Vr,UF] at hb;subst hb;obtain⟨x,g,rfl⟩:=List.mem_map.1 ha;obtain⟨j,z,v,rfl⟩:=Qbd.1 g;have m:=h.lt (i:=j) k z oM;obtain⟨s,t⟩:=Qb9 hy v;obtain⟨A,o⟩:=Qb9 hy e;unfold QaL at m;rw [s,A,t,o,QdN.2 rfl,show QaZ y.2 y.2=0 from QaR.int.irr _] at m;simpa [orI,Qkv,QbC] using m
  ·rw [Qcf e];exact u
theorem Qgi{l:List Lf}{ts:List Dt}(h:QbT R F T n l l.length)(hy:y.2≠3)(h1:ts.Pairwise (fun x y=>QbC x y<0))(h2:∀d,d∈ts↔Mk l l.length (Qac p 3++[y]) d≠Up):ts=(dsK l p y l.length).map fun x=>((x.r,x.q):Dt):=by
 refine QaR.dot.uniq h1 (QeF h hy _ zL) fun d=> ?_;rw [h2,Qe6,List.mem_map];constructor
 ·rintro⟨j,m,k,u⟩;exact⟨gL l j,Qbd.2 ⟨j,m,(Qhh hy).2 k,rfl⟩,u⟩
 ·rintro⟨x,v,e⟩;obtain⟨j,m,k,rfl⟩:=Qbd.1 v;exact⟨j,m,(Qhh hy).1 k,e⟩
theorem Qgu {l:List Lf}{x:Lf}(hy:y.2≠3)(hd:Dis l l.length)(hx:x∈dsK l p y l.length):Mk l l.length (Qac p 3++[y]) (x.r,x.q)=Uq x.v:=by
 obtain⟨j,m,k,rfl⟩:=Qbd.1 hx;exact(QiH hd).2 ⟨j,m,(Qhh hy).1 k,rfl,rfl⟩
theorem QfQ (p:List ByteArray)(s:ByteArray):Qac (p++[s]) 3=Qac p 3++[(s,3)]:=by
 rw [Qkl,Qkl,UB,Vx,Vj,UC];congr 1
 ·refine Vy fun i hi=> ?_;rw [Qji (List.prefix_append p [s]) (oU hi)]
 ·simp [gS,UA]
noncomputable def uK (l:List Lf)(p:List ByteArray):Nat ->Nat
 | 0=>0
 | k+1=>uK l p k+(if yes (nx p (gL l k)≠Up)=true then 1 else 0)
theorem Qpx (l:List Lf)(p:List ByteArray):∀k,uK l p k<=k
 | 0=>Uv _
 | k+1=>by have:=Qpx l p k;simp only [uK];split<;>omega
theorem Qkc (f:Ky ->Nat)(z:Ky):∀ys:List Ky,ys.Nodup ->(ys.map fun y=>f y+if y=z then 1 else 0).sum<=(ys.map f).sum+(if yes (z∈ys)=true then 1 else 0)
 | [],_=>oP
 | a::r,h=>by
  have j:=Qkc f z r (List.nodup_cons.1 h).2;have k:=(List.nodup_cons.1 h).1;simp only [UD,Vz];by_cases e:a=z
  ·subst e;rw [Qag k] at j;rw [Qaj (Vc),if_pos rfl,if_pos rfl];simp at j;omega
  ·rw [if_neg e];have:(z∈a::r)=(z∈r):=(by simp [show z≠a from fun h=>e h.symm]);rw [this];omega
theorem Qmg (l:List Lf)(p:List ByteArray)(ys:List Ky)(hn:ys.Nodup):∀k,(ys.map fun y=>(dsK l p y k).length).sum<=uK l p k
 | 0=>by
  have:(ys.map fun y=>(dsK l p y 0).length)=ys.map fun _=>0:=by simp [dsK]
  have u:∀ys:List Ky,(ys.map fun _=>0).sum=0:=fun ys=>by
   induction ys with
   | nil=>rfl
   | cons a r m=>simp only [UD,Vz,m]
  rw [this,u];exact Ux _
 | k+1=>by
  have m:=Qmg l p ys hn k;cases h:nx p (gL l k) with
  | none=>
   have e:(ys.map fun y=>(dsK l p y (k+1)).length)=ys.map fun y=>(dsK l p y k).length:=Vy fun y _=>by rw [Qcf (by rw [h];simp)]
   rw [e];simp only [uK];omega
  | some z=>
   have e:(ys.map fun y=>(dsK l p y (k+1)).length)=ys.map fun y=>(dsK l p y k).length+if y=z then 1 else 0:=Vy fun y _=>by
    by_cases j:y=z
    ·subst j;rw [QbK h,if_pos rfl];simp
    ·rw [Qcf (by rw [h];simpa using fun e=>j e.symm),if_neg j];omega
   have v:=Qkc (fun y=>(dsK l p y k).length) z ys hn;have q:uK l p (k+1)=uK l p k+1:=(by simp only [uK];rw [if_pos (Qaj (by rw [h];simp))]);rw [e,q];have g:(if yes (z∈ys)=true then 1 else 0)<=1:=(by split<;>omega);omega
theorem Qmj (l:List Lf)(p:List ByteArray)(s:ByteArray):∀k,uK l (p++[s]) k=(dsK l p (s,3) k).length
 | 0=>rfl
 | k+1=>by
  have j:=Qmj l p s k;by_cases h:nx p (gL l k)=Uq (s,3)
  ·rw [QbK h];simp only [uK];rw [if_pos (Qaj (Qem.1 h)),j];simp
  ·rw [Qcf h];simp only [uK];rw [if_neg (by rw [Qag (fun hh=>h (Qem.2 hh))];simp),j];rfl
theorem Qct {α:Type}(f:α ->List Int)(g:α ->Nat)(C:Nat):∀ys:List α,(∀y∈ys,(f y).length<=C*g y) ->(ys.flatMap f).length<=C*(ys.map g).sum
 | [],_=>oP
 | a::r,h=>by
  have k:=Qct f g C r (fun y hy=>h y (Ve _ hy));have j:=h a (Vc);simp only [Vs,UB,UD,Vz,Nat.mul_add];omega
theorem QaG (s:ByteArray):(Qae s).length<=10+s.size:=by
 have:=(Qah 9 s.size).1;simp only [Qae,UB,Qas];omega
theorem QoN {ls:List Lf}(k:Int)(h:∀x∈ls,x.v.size<=200):(mB ls k).length<=10+230*ls.length:=by
 have t:=(Qah 9 ls.length).1;have j:=Qct (lfB k) (fun _=>1) 230 ls (fun x hx=>by
  have u:=(Qah 9 x.r.toNat).1;have y:=(Qah 9 x.q.toNat).1;have z:=QaG x.v;have g:=h x hx;unfold lfB;simp only [UB];split
  ·omega
  ·simp;omega)
 have m:∀ls:List Lf,(ls.map fun _=>1).sum=ls.length:=fun ls=>by
  induction ls with
  | nil=>rfl
  | cons a r ih=>simp only [UD,Vz,ih,Vq];omega
 rw [m] at j;unfold mB;simp only [UB];omega
theorem Qen{x:Lf}(hx:Qcz x)(h:nx p x=Uq y):y.1.size<=40:=by
 rw [Qb2] at h;obtain⟨⟨_,k⟩,e⟩:=h;have j:=congrArg Prod.fst e;unfold Qav at j;dsimp only at j;rw [<- j];exact(hx.1.2.2 _ k).2
theorem Qkg {R F T:Nat ->Int}{n:Nat}{l:List Lf}(h:QbT R F T n l l.length):∀f p,(tB l f p).length<=10+(400+100*f)*uK l p l.length
 | 0,p=>by simp [tB]
 | f+1,p=>by
  have u:=Qkg h f;obtain⟨v,z⟩:=Qeh p h l.length zL;have r:(kS l p l.length).Nodup:=v.imp fun{a b} hab e=>by subst e;rw [QaR.key.irr] at hab;omega
  have t:=(Qah 9 (kS l p l.length).length).1;have o:=Qct (kB l f p) (fun y=>(dsK l p y l.length).length) (500+100*f) (kS l p l.length) (fun y hy=>by
   obtain⟨j,m,e⟩:=(z y).1 hy;have M:1<=(dsK l p y l.length).length:=List.length_pos_of_mem (Qbd.2 ⟨j,m,e,rfl⟩);have O:=QaG y.1;have Q:=Qen (h j m).1 e;have g:(if y.2=3 then tB l f (p++[y.1]) else mB (dsK l p y l.length) y.2).length<=10+(400+100*f)*(dsK l p y l.length).length:=by
    by_cases k:y.2=3
    ·rw [if_pos k];have:=u (p++[y.1]);rw [Qmj,show (y.1,(3:Int))=y by rw [<- k]] at this;exact this
    ·rw [if_neg k];have:=QoN (ls:=dsK l p y l.length) y.2 (fun x hx=>by
      obtain⟨i,hi,_,rfl⟩:=Qbd.1 hx;exact(h i hi).1.2.1)
     have A:230*(dsK l p y l.length).length<=(400+100*f)*(dsK l p y l.length).length:=Nat.mul_le_mul_right _ oM;omega
   unfold kB;simp only [UB,Vx];have E:(500+100*f)*(dsK l p y l.length).length=(400+100*f)*(dsK l p y l.length).length+100*(dsK l p y l.length).length:=(by rw [<- Nat.add_mul];congr 1;omega);omega)
  have q:=Qmg l p _ r l.length;have s:(500+100*f)*((kS l p l.length).map fun y=>(dsK l p y l.length).length).sum<=(500+100*f)*uK l p l.length:=Nat.mul_le_mul_left _ q;rw [Qg8,UB,show 400+100*(f+1)=500+100*f by omega];omega
def Iv (l:List Lf)(p:List ByteArray)(i e:Nat):Prop:=(∀j,j<l.length ->(nx p (gL l j)≠Up↔i<=j/\ j<e))/\ i<=e/\ e<=l.length
theorem Iv.start {l:List Lf}(h:Iv l p i e):∀k,k<=i ->kS l p k=[]
 | 0,_=>rfl
 | k+1,hk=>by
  rw [Qdp]
  ·exact h.start k oM
  ·have:=h.1 k (oH h.2);cases e1:nx p (gL l k) with
   | none=>rfl
   | some y=>rw [e1] at this;have:=this.1 oP;omega
theorem Iv.stop {l:List Lf}(h:Iv l p i e):∀k,e<=k ->k<=l.length ->kS l p k=kS l p e:=by
 intro k m q;induction k with
 | zero=>rw [show e=0 by omega]
 | succ k ih=>
  by_cases j:e=k+1
  ·rw [j]
  ·rw [Qdp,ih oM oM];have:=h.1 k oM;cases e1:nx p (gL l k) with
   | none=>rfl
   | some y=>rw [e1] at this;have:=this.1 oP;omega
section
variable {R F T : Nat -> Int} {n : Nat} {l : List Lf} {p : List ByteArray} {i e j g : Nat} {y : Ky}
theorem Qfy (hy:y ∉ kS l p j)(hg:∀t,t<g ->nx p (gL l (j+t))=Uq y):∀t,t<g ->kS l p (j+(t+1))=kS l p j++[y]
 | 0,h=>by
  show kS l p (j+1)=_;have k:=hg 0 h;rw [VO] at k;rw [Qdq k,if_neg (by rw [Qag (fun e=>hy (Vw e))];simp)]
 | t+1,h=>by
  have m:=Qfy hy hg t oM;show kS l p (j+(t+1)+1)=_;rw [Qdq (hg (t+1) h),m,if_pos (Qaj oP)]
theorem QkC (hl:QbT R F T n l l.length)(hI:Iv l p i e)(hj:i<=j)(hy:y ∉ kS l p j)(h1:1<=g)(hge:j+g<=e)(hg:∀t,t<g ->nx p (gL l (j+t))=Uq y)(hs:j+g<e ->nx p (gL l (j+g))≠Uq y):
  ∀t,t<l.length ->(nx p (gL l t)=Uq y↔j<=t/\ t<j+g):=fun t ht=>by
 have M:=hI.2.2;constructor
 ·intro k;obtain⟨_,u⟩:=Qeh p hl j oM;refine⟨Nat.le_of_not_lt fun h=>hy ((u y).2 ⟨t,h,k⟩),Nat.lt_of_not_le fun h=> ?_⟩;have O:=(hI.1 t ht).1 (by rw [k];simp);have m:=hs oM;cases ez:nx p (gL l (j+g)) with
  | none=>have:=(hI.1 (j+g) oM).2 oM;exact this ez
  | some z=>
   have r:z≠y:=fun e=>m (by rw [ez,e]);have v:=Qcu (hl.lt (i:=j+(g - 1)) (j+g) oM oM) (hg (g - 1) oM) ez;have o:QcR y z≠0:=fun e=>r ((QaR.key.z y z).1 e).symm;by_cases q:t=j+g
   ·subst q;exact m k
   ·have b:=Qcu (hl.lt (i:=j+g) t oM ht) ez k;have s:=(QaR.key.neg y z).1 oM;omega
 ·rintro⟨A,E⟩;have:=hg (t - j) oM;rwa [show j+(t - j)=t by omega] at this
theorem QkB (hl:QbT R F T n l l.length)(hI:Iv l p i e)(hy:y ∉ kS l p j)(h1:1<=g)(hge:j+g<=e)(hg:∀t,t<g ->nx p (gL l (j+t))=Uq y)(hs:j+g<e ->nx p (gL l (j+g))≠Uq y){z:Ky}(hlt:j+g<e)(hz:nx p (gL l (j+g))=Uq z):z ∉ kS l p (j+g):=fun k=>by
 have E:=hI.2.2;have q:=Qfy hy hg (g - 1) oM;rw [show j+(g - 1+1)=j+g by omega] at q;rw [q,UY,UF] at k;have r:z≠y:=fun e=>hs hlt (by rw [hz,e]);rcases k with k|k
 ·obtain⟨_,h⟩:=Qeh p hl j oM;obtain⟨t,v,u⟩:=(h z).1 k;have m:=hg 0 oM;rw [VO] at m;have o:=Qcu (hl.lt (i:=t) j v oM) u m;have b:=Qcu (hl.lt (i:=j) (j+g) oM oM) m hz;have s:QcR z y≠0:=fun e=>r ((QaR.key.z z y).1 e);have A:=(QaR.key.neg z y).1 oM;omega
 ·exact r k
theorem QkA (ho:∀t,t<l.length ->(nx p (gL l t)=Uq y↔j<=t/\ t<j+g))(hge:j+g<=l.length):dsK l p y l.length=(UW g).map fun t=>gL l (j+t):=by
 have q:∀k,k<=l.length ->dsK l p y k=(UW (min (k - j) g)).map fun t=>gL l (j+t):=by
  intro k;induction k with
  | zero=>intro _;simp [dsK]
  | succ k m=>
   intro u;have m:=m oM;by_cases h:nx p (gL l k)=Uq y
   ·have:=(ho k oM).1 h;rw [QbK h,m,show min (k+1 - j) g=(k - j)+1 by omega,show min (k - j) g=k - j by omega,Vj,UC];simp [show j+(k - j)=k by omega]
   ·have r:¬(j<=k/\ k<j+g):=fun hh=>h ((ho k oM).2 hh);rw [Qcf h,m];congr 2;omega
 rw [q _ zL,show min (l.length - j) g=g by omega]
theorem QmM {s:ByteArray}(ho:∀t,t<l.length ->(nx p (gL l t)=Uq (s,3)↔j<=t/\ t<j+g))(hge:j+g<=l.length):Iv l (p++[s]) j (j+g):=
 ⟨fun t ht=>by rw [<- Qem,ho t ht],oM,hge⟩
end
end Go.Proofs.YtmlmkaiibamabaaGreatDoor
