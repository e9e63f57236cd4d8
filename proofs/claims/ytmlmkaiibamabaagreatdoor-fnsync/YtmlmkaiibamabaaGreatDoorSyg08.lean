import Derived.Test.YtmlmkaiibamabaaGreatDoorSyhShel2
import Derived.Sort.MapsRangeIn
import Derived.Shelf.SlSortCmp.NoneTotal
import Derived.RangeFuncBound
import Derived.Test.YtmlmkaiibamabaaGreatDoorSyg06
set_option linter.unusedVariables false
set_option linter.unusedSimpArgs false
set_option maxRecDepth 100000
set_option maxHeartbeats 40000000
namespace Go.Proofs.YtmlmkaiibamabaaGreatDoor
open Go.ChangeShapes Go.WideShapes Go.ChangeAt Go.RowKit Go.Maps Go.Sort Go.Lib Go.Shelf Go.Proofs.Tryz
open Go.Value renaming int → Ug, pointer → Uk, string → Um, bool → Un, agg → Uo, slice → Uf, tuple → Ul
open Go.IntKind renaming i64 → Uh
open Go.Ending renaming returned → Ui
open Go.Obj renaming cells → Uj
open Option renaming none → Up, some → Uq
open Go renaming World → Ur, Addr → Us
open List renaming size_toArray → Yq, length_cons → Vq, length_nil → Yr, push_toArray → Ys, append_toArray → Yt, nil_append → VX, cons_append → Ya, flatMap_cons → Vs, length_append → UB, ext_getElem? → Yu, getElem?_eq_none → UX, getElem?_take_of_lt → Vu, getElem?_take_eq_none → Yv, eq_nil_of_length_eq_zero → Yw, nodup_nil → Ye, append_assoc → Vg, getElem?_map → Yj, mem_of_getElem? → Yx, take_add_one → Vl, map_cons → UD, sum_cons → Vz, length_take → Vo, take_length → Vn, take_append_drop → Yy, flatMap_append → VU, length_filter_le → Yz, dropLast_concat_getLast → YA, append_nil → VW
open Nat renaming reduceAdd → YB, reduceSub → YC, le_refl → Uv, le_trans → Uw, zero_add → VS, zero_le → Ux, le_of_lt → YD, lt_of_lt_of_le → Ut, add_assoc → UQ, mul_le_mul_right → UR
open _root_.Array renaming replicate_succ → YE, replicate_zero → YF, getElem?_toList → YG, getElem?_eq_getElem → YH, getElem?_modify → YI, toArray_toList → YJ
open Go.World renaming grownBy_alloc → VG, putObj_heap_other → YK, putObj_heap_same → YL, cell?_of_block → US, alloc_heap_new → YM, size_alloc → YN, frozen? → VQ, cell? → YO, ownsRow_nil → VE, setCell → UL, cell?_setCell_far → UJ
open Option renaming map_eq_some_iff → Ym, isSome → YP
variable {B b bd bm bm' c cap d g hi lo lo' m n:Nat}{F R T:Nat ->Int}{J l:List Lf}{a x:Option Us}{cur:Array Value}{e t:TypeId}{fr x0 y0 z0:Nat×Nat}{mo:Option Nat}{p:List ByteArray}{ts:List Ky}{ul:List Rn}{v v0 v1 v2:Value}{w w' w1:Ur}{y:Ky}
theorem Qhb (n l Bm b nn:Nat)(f:Ky ->Option (Nat×Nat))(D0:DataW Value)(J:List Ky ->Ur ->Prop)(hn:1<=n)
  (hY:∀pre x W,J pre W ->pre.length<Maps.size D0 ->YieldAt Fence.wide (n - 1) prog l #[Qa9 x] W fun e W'=>e=Ui (Un true)/\ J (pre++[x]) W'/\ KeepsWalks W W')
  (W:Ur) (hJ:AbidesFrom W.heap.size J) (hm:W.cell? (Ub Bm)=Uq (.map (Uq b))) (hF:FM W 174 Qa9 Qbl b nn f D0) (h0:J [] W):
  CallsIn Fence.wide n prog 144 #[.func (.yield l) #[] #[],Uk (Uc Bm)] W fun e W'=>(∃v,e=Ui v)/\∃j,Qc8 f j/\ J j W':=by
 have P:=hF.own;have y:=hid hF;have z:=hid hJ;have V:=hid hY;clear hF hJ hY;refine callsIn_of_wp func144 rfl trivial ?_ rfl;simp only [ntmps144,Yq,Vq,Yr,YB,YC,YE,YF,Ys,Yt,VX,Ya];gi_wp2_with (first
  | (gi_at_range;refine wpListIn_range_own _ rfl _ 121 rfl 174 124 Qa1 underlying121 _ b nn _ rfl P ?_;intro w0 R L He)
  | gi_in)
 try go_frame
 gi_loopw [3] (fun _ wr=>∃(t:Lit ->Bool) (h:Nat) (j:List Ky),wr.ranges prog 174 QgE b W.heap.size nn D0 t h/\ j.length+h<=Maps.size D0/\ Qdh 174 Qa9 f t j/\ J j wr)
  (fun _ wr=>wr.rangeLeft b W.heap.size)
 case atStart=>exact⟨_,_,[],R,oP,Qdh.start y,z [] W w0 Up h0 L (fun r e=>by cases e)⟩
 case round=>
  obtain⟨t,h,j,g,O,A,E⟩:=hrel;have i:=hid A;have p:=hid O;clear A O;gi_wp2_with (first
   | (gi_at_next;refine wpListIn_next_ranges _ rfl _ rfl 174 Qa1 QgE Qa9 id (fun key kl hk=>QcY hk) (fun v _ _=>⟨v,rfl⟩) b W.heap.size nn _ _ _ rfl g ?_ ?_)
   | gi_in)
  ·intro Hd C;gi_wp2
   go_end0;exact⟨⟨_,rfl⟩,j,i.done y C,E⟩
  ·intro q m c kl yd yp k Y B D hv I S F N T K;have Z:J j k:=z j wr k (Uq W.heap.size) E N (fun r e=>by cases e;exact⟨Uv _,g.iter_walk⟩);obtain⟨o,u⟩:=zE (k.alloc (Uj #[Um q,Ud m] 174));have G:J j o:=(by rw [<- u];exact z j k _ Up Z (VG k _ Up) (fun r e=>by cases e));obtain⟨fn,Hc,Ha,Hb,hy,M⟩:=V j (q,m) o G (oH p);have s:Bx2 o k.heap.size (Um q) (Ud m):=u▸Bx2.made _ _ _ _;have Q:=S.alloc (Uj #[Um q,Ud m] 174);rw [u] at Q;obtain⟨q0,q1⟩:=s.q2;clear T s;dsimp only [Qa9] at K hy M ⊢;gi_wp2
   try rw [u]
   refine M.mono ?_;rintro e W3 ⟨rfl,H,X⟩;gi_wp2
   have U:=Q.of_walks X;go_roundw;case rel=>exact⟨_,Y,j++[(q,m)],U,by have:=p.out;simp;omega,i.step y Qa1 (fun _ _=>Qb7) B D I,H⟩
   case measure=>rw [U.left_eq,g.left_eq];exact F
def kCells (x:Ky):List Value:=[Um x.1,Ud x.2]
def kRow (ss:List Ky):List Value:=ss.flatMap kCells
theorem Qeg (ss:List Ky)(x:Ky):kRow (ss++[x])=kRow ss++kCells x:=by simp [kRow]
theorem QmR:(prog.info? 174).map (fun i=>(i.zero,i.size,i.bytes))=Uq (Uq (Uo #[Um ByteArray.empty,Ud 0]),2,24):=oK
def apA:Code:=(Code.region 2 #[{dst:=Uq 5,op:=Op.alloc 174,type:=0,pos:= "iter.go:51",after:=#[],guard:=Up},{dst:=Up,op:=Op.store 174 (Operand.tmp 5) (Operand.tmp 7),type:=0,pos:= "iter.go:51",after:=#[{on:=0,ground:=Ground.data},{on:=0,ground:=Ground.phase}],guard:=Up}] false)
def apB:Code:=(Code.block 1 (Code.region 3 #[{dst:=Uq 8,op:=Op.load 170 (Operand.tmp 2),type:=170,pos:= "iter.go:52",after:=#[],guard:=Up},{dst:=Uq 9,op:=Op.load 174 (Operand.tmp 5),type:=174,pos:= "iter.go:52",after:=#[],guard:=Up},{dst:=Uq 10,op:=Op.buildSlice 170 1 #[(0,Operand.tmp 9)],type:=170,pos:= "iter.go:52",after:=#[{on:=1,ground:=Ground.data}],guard:=Up},{dst:=Uq 11,op:=Op.call {callee:=Callee.builtin Builtin.append,args:=#[Operand.tmp 8,Operand.tmp 10],argTypes:=#[170,170]},type:=170,pos:= "iter.go:52",after:=#[{on:=0,ground:=Ground.data},{on:=2,ground:=Ground.data}],guard:=Up},{dst:=Up,op:=Op.store 170 (Operand.tmp 2) (Operand.tmp 11),type:=0,pos:= "iter.go:52",after:=#[{on:=3,ground:=Ground.data},{on:=3,ground:=Ground.chain},{on:=0,ground:=Ground.phase},{on:=1,ground:=Ground.phase},{on:=2,ground:=Ground.phase},{on:=3,ground:=Ground.phase}],guard:=Up}] false))
def Qbz (fn:FuncId)(sv:Value)(Bs D:Nat)(st:LoopState):Loop:=
 {state:=st,pending:=Up,fn,tmps:=#[Ue,sv,Uk (Uc Bs),undef,Ue,undef,sv,undef,undef,undef,undef,undef,undef],params:=#[7],assign:=apA,body:=apB,defers:=D}
structure Qir (w0:Ur)(fn:FuncId)(sv:Value)(Bs l D:Nat)(ss:List Ky)(W:Ur):Prop where
 box:∃v,W.heap[Bs]? =Uq (Uj #[v] 170 (0,0))/\ W.ownsRow w0.heap.size 174 2 v ss.length (kRow ss)/\ (v=Ue↔ss=[])
 L:W.heap[l]? =Uq (.loop (Qbz fn sv Bs D .ready))
 K:W.heap[D]? =Uq (.deferred (Uq []))
 bw:Bl w0 W
theorem Qcb (w0:Ur)(fn:FuncId)(sv:Value)(Bs l D B:Nat)(hB:w0.heap.size<=B):AbidesFrom B (Qir w0 fn sv Bs l D):=fun s W W' row h hg hrow=>by
 have j:∀r,row=Uq r ->∃o:Obj,W.heap[r]? =Uq o/\ o.isWalk=true:=fun r e=>(hrow r e).2;obtain⟨v,m,u,q⟩:=h.box;exact⟨⟨v,(grownBy_keeps hg j m rfl).trans m,ownsRow_abides_a u hg j,q⟩,(grownBy_keeps hg j h.L rfl).trans h.L,(grownBy_keeps hg j h.K rfl).trans h.K,h.bw.grown hg h.bw.size (fun k e=>Uw hB (hrow k e).1)⟩
theorem Qfg (m:Nat)(w0:Ur)(fn:FuncId)(sv:Value)(Bs l D:Nat)(hBl:Bs≠l)(hDl:D≠l)(hDB:D≠Bs)(h0B:w0.heap.size<=Bs)(h0l:w0.heap.size<=l)
    (N:Nat) (hN:N<=maxLen) (hNb:N*24<=140737488355328) (ss:List Ky) (x:Ky) (W:Ur) (h:Qir w0 fn sv Bs l D ss W) (hlen:ss.length<N):
    YieldAt Fence.wide m prog l #[Qa9 x] W fun e W'=>e=Ui (Un true)/\ Qir w0 fn sv Bs l D (ss++[x]) W'/\ KeepsWalks W W':=by
  have Hj:170≠174:=oD;obtain⟨i0,hi,Ht,Hu,Hv⟩:=info_parts QmR;refine⟨fn,#[Ue,sv,Uk (Uc Bs),undef,Ue,undef,sv,Qa9 x,undef,undef,undef,undef,undef],apA,apB,by simpa [Qbz] using run_yield (P:=prog) (args:=#[Qa9 x]) h.L rfl,roundIn_of_wpIn trivial ?_⟩;obtain⟨s,p⟩:=x;obtain⟨g,X⟩:=zE (W.alloc (Uj #[Um s,Ud p] 174));have u:Qir w0 fn sv Bs l D ss g:=by rw [<- X];exact Qcb w0 fn sv Bs l D w0.heap.size zL ss W _ Up h (VG W _ Up) (fun r e=>by cases e)
  have Hi:KeepsWalks W g:=X▸KeepsWalks.alloc _ _;have E:Bx2 g W.heap.size (Um s) (Ud p):=X▸Bx2.made _ _ _ _;have H0:l<W.heap.size:=(Array.getElem?_eq_some_iff.1 h.L).1;obtain⟨v,hv,C,_⟩:=u.box;have hl:l<g.heap.size:=(Array.getElem?_eq_some_iff.1 u.L).1;have Hm:=run_beginRound (P:=prog) u.L rfl;obtain⟨q,i⟩:∃q,g.putObj l (.loop {Qbz fn sv Bs D .ready with state:=.busy})=q:=⟨_,rfl⟩;rw [i] at Hm;have U:g.grownBy q (Uq l):=i▸grownBy_putObj_a _ _ _;have Ho:KeepsWalks W q:=Hi.trans (i▸KeepsWalks.putObj _ u.L rfl);have Z:q.heap[Bs]? =Uq (Uj #[v] 170 (0,0)):=i▸(YK hBl).trans hv;have I:q.heap[D]? =Uq (.deferred (Uq [])):=i▸(YK hDl).trans u.K;have J:q.heap[l]? =Uq (.loop {Qbz fn sv Bs D .ready with state:=.busy}):=i▸YL hl;have F:q.ownsRow w0.heap.size 174 2 v ss.length (kRow ss):=C.kept U (ownsRow_ne_a C u.L (fun cur e=>by cases e));have Q:Bl w0 q:=u.bw.grown U u.bw.size (fun k e=>by cases e;exact h0l);have H:q.heap[W.heap.size]? =g.heap[W.heap.size]? :=U.block _ E.lt (fun e=>oI e);have q0:q.cell? (Ub W.heap.size)=Uq (Um s):=(US (a:=(Ub W.heap.size)) H).trans E.c0;have q1:q.cell? (Ua W.heap.size 1)=Uq (Ud p):=(US (a:=(Ua W.heap.size 1)) H).trans E.c1;obtain⟨Hw,Hy⟩:=cell_of_box_a Z;have Hb:Bs<q.heap.size:=(Array.getElem?_eq_some_iff.1 Z).1;have Hq:l<q.heap.size:=(Array.getElem?_eq_some_iff.1 J).1;have Hc:D<q.heap.size:=(Array.getElem?_eq_some_iff.1 I).1;have ne_of:∀{j:Nat} {o:Obj},q.heap[j]? =Uq o ->(∀cur,o≠.cells cur 174 (0,0)) ->Uq j≠v.ownBlock:=fun hj hno=>by
    rcases ownsRow_ne_a F hj hno with e|e
    · rw [e];simp
    · exact fun e'=>e e'.symm
  have G:=hid F;have HZ:=hid Q.size;clear i C F E H U Hi;unfold apA;dsimp only [Qa9];gi_wp2_with gi_round_op_a
  unfold apB;gi_wp2_with (first
    | (gi_at_builtin;refine wpListIn_append_own _ rfl _ _ 170 rfl w0.heap.size 174 i0 (Uo #[Um ByteArray.empty,Ud 0]) 2 24 underlying170 hi Ht Hu Hv rfl oD _ _ _ rfl (G.alloc _) (Ub q.heap.size) 1 1 [Um s,Ud p] rfl rfl (cell_two_new _ _ _ _) (by simp [Value.oneCell']) oM oM (by have:=HZ.out;simp;omega) ?_;intro v' y B Hh Hk
       have R:y.heap[Bs]? =Uq (Uj #[v] 170 (0,0)):=(Hh.block Bs oS (ne_of Z (fun cur e=>Hj (Obj.cells.inj e).2.1))).trans ((Below.heap_alloc _ _ Bs Hb).trans Z)
       obtain⟨Hx,Hz⟩:=cell_of_box_a R
       obtain⟨b,t,M,rfl,Hd,Hn,H1,H2,H3,H4⟩:∃b t M,v'=Uf (Uc b) (ss.length+1) t/\ w0.heap.size<=b/\ y.heap[b]? =Uq (.cells M 174 (0,0))/\ ss.length+1<=t/\ t<=maxLen/\ M.size=t*2/\ M.toList.take ((ss.length+1)*2)=kRow ss++[Um s,Ud p]:=by
         rcases B.2 with ⟨_,h0⟩|h'
         · exact absurd h0 oM
         · exact h'
       have S:=hid B
       clear B
       try go_frame)
    | gi_round_op_a)
  have V:(q.alloc (Uj #[Um s,Ud p] 174)).grownBy y v.ownBlock:=Hh;have He:y.heap[l]? =Uq (.loop {Qbz fn sv Bs D .ready with state:=.busy}):=(V.block l oS (ne_of J (fun cur e=>by cases e))).trans ((Below.heap_alloc _ _ l Hq).trans J);have T:y.heap[D]? =Uq (.deferred (Uq [])):=(V.block D oS (ne_of I (fun cur e=>by cases e))).trans ((Below.heap_alloc _ _ D Hc).trans I);obtain⟨z,A⟩:=zE (y.setCell (Ub Bs) (Uf (Uc b) (ss.length+1) t));rw [A];have Y:y.grownBy z (Uq Bs):=A▸grownBy_setCell0_a _ _ _;have Hs:z.heap[Bs]? =Uq (Uj #[Uf (Uc b) (ss.length+1) t] 170 (0,0)):=A▸heap_setCell_box_a _ R;have O:z.heap[l]? =Uq (.loop {Qbz fn sv Bs D .ready with state:=.busy}):=(Y.block l (Array.getElem?_eq_some_iff.1 He).1 (fun e=>hBl (by cases e;rfl))).trans He;have Hl:z.heap[D]? =Uq (.deferred (Uq [])):=(Y.block D (Array.getElem?_eq_some_iff.1 T).1 (fun e=>hDB (by cases e;rfl))).trans T;have Ha:=S.kept Y (ownsRow_ne_a S R (fun cur e=>Hj (Obj.cells.inj e).2.1));have Hr:l<z.heap.size:=(Array.getElem?_eq_some_iff.1 O).1;have Hf:Bl w0 y:=(Q.alloc Q.size _).grown V (by have:=Q.size;simp;omega) (fun k e=>(G.lt k e).1);have Hg:Bl w0 z:=Hf.grown Y Hf.size (fun k e=>by cases e;exact h0B);have Hp:KeepsWalks W z:=((Ho.trans (KeepsWalks.alloc _ _)).trans (KeepsWalks.of_grownBy V (ownsRow_not_walk_a (G.alloc _)))).trans (A▸KeepsWalks.setCell _ _ _);clear A;refine⟨_,_,run_endRound Up O,rfl,⟨⟨_,(YK hBl).trans Hs,?_,oP⟩,YL Hr,(YK hDl).trans Hl,Hg.grown (grownBy_putObj_a _ _ _) Hg.size (fun k e=>by cases e;exact h0l)⟩,Hp.trans (KeepsWalks.putObj _ O rfl)⟩;have:=Ha.kept (grownBy_putObj_a z l (.loop {{Qbz fn sv Bs D .ready with state:=.busy} with state:=if (Up:Option Code).isNone then .ready else .done,pending:=Up})) (ownsRow_ne_a Ha O (fun cur e=>by cases e));rw [Qeg];simpa [kCells] using this
theorem Qdi (n:Nat)(hn:2<=n)(g:Nat)(lb:Array Value)(eg:∀args w,(callFunc g args).run prog w=.ok (.enter g args) w)
  (S:List Ky ->Prop) (N:Nat) (hN:N<=maxLen) (hNb:N*24<=140737488355328) (w:Ur) (hseq:SeqGives Fence.wide (n - 1) prog g lb Qa9 S N w):
  CallsIn Fence.wide n prog 168 #[Ue,.func (.func g) #[] lb] w fun e w'=>∃(v:Value) (y:List Ky),e=Ui v/\ S y/\ w'.ownsRow w.heap.size 174 2 v y.length (kRow y)/\ (v=Ue↔y=[])/\ Bl w w':=by
 have F:170≠174:=oD;refine callsIn_of_wp_marks func168 rfl trivial ?_ rfl;simp only [ntmps168,Yq,Vq,Yr,YB,YC,YE,YF,Ys,Yt,VX,Ya];gi_wp2
 refine wpIn_rangeFunc ?_;intro r D;obtain⟨j,t⟩:=zE (w.alloc (Uj #[Ue] 170));have G:j.heap.size=w.heap.size+1:=t▸oP;have I:j.heap[w.heap.size]? =Uq (Uj #[Ue] 170 (0,0)):=t▸YM w _;have o:Bl w j:=t▸(RowKit.Below.refl _ w).alloc zL _;rw [t];obtain⟨m,z⟩:=zE ((j.alloc (.deferred (Uq []))).alloc (.loop (Qbz r (.func (.func g) #[] lb) w.heap.size j.heap.size .ready)));have Z:∀k,k<j.heap.size ->m.heap[k]? =j.heap[k]? :=fun k hk=>by
  rw [<- z];exact(Below.heap_alloc _ _ k oS).trans (Below.heap_alloc _ _ k hk)
 have i:Bl w m:=by rw [<- z];exact(o.alloc o.size _).alloc (by have:=o.size;simp;omega) _
 have U:Qir w r (.func (.func g) #[] lb) w.heap.size (j.heap.size+1) j.heap.size [] m:=
  ⟨⟨_,(Z w.heap.size oM).trans I,⟨rfl,.inl ⟨rfl,rfl⟩⟩,oP⟩,
   by rw [<- z];have:=YM (j.alloc (.deferred (Uq []))) (.loop (Qbz r (.func (.func g) #[] lb) w.heap.size j.heap.size .ready));rwa [YN] at this,
   by rw [<- z];exact(Below.heap_alloc _ _ _ oP).trans (YM j _),i⟩
 refine⟨j.heap.size+1,[{target:=.collected j.heap.size,args:=#[]}],m,{target:=.fn (.func g) lb,args:=#[.func (.yield (j.heap.size+1)) #[] #[]]},m,g,
  #[.func (.yield (j.heap.size+1)) #[] #[]]++lb,m,?_,?_,?_,?_,fun _=>oM,?_⟩
 ·rw [<- z];exact run_enterLoop_outer _ _ _ _ _
 ·simp [resolve,go_sem]
 ·intro f' B;trivial
 ·simp [invoke,go_sem,eg]
 ·refine(hseq (j.heap.size+1) (Qir w r (.func (.func g) #[] lb) w.heap.size (j.heap.size+1) j.heap.size) m i (Qcb _ _ _ _ _ _ _ i.size)
   (fun pre x W hJ hl=>Qfg (n - 1 - 1) w r _ w.heap.size (j.heap.size+1) j.heap.size oM oM oM zL oM N hN hNb pre x W hJ hl) U).mono ?_
  rintro e s ⟨⟨R,rfl⟩,y,V,u⟩;obtain⟨v,H,b,Y⟩:=u.box;have M:=run_endLoop (P:=prog) u.L (by simp [Qbz]);obtain⟨q,h⟩:∃q,s.putObj (j.heap.size+1) (.loop {Qbz r (.func (.func g) #[] lb) w.heap.size j.heap.size .ready with state:=.exhausted})=q:=⟨_,rfl⟩;rw [h] at M;have O:s.grownBy q (Uq (j.heap.size+1)):=h▸grownBy_putObj_a _ _ _;have J:q.heap[w.heap.size]? =Uq (Uj #[v] 170 (0,0)):=h▸(YK oM).trans H;have A:q.heap[j.heap.size]? =Uq (.deferred (Uq [])):=h▸(YK oM).trans u.K;have Q:=b.kept O (ownsRow_ne_a b u.L (fun cur e=>by cases e));have E:Bl w q:=u.bw.grown O u.bw.size (fun k e=>by cases e;omega);obtain⟨X,C⟩:=cell_of_box_a J;have p:=hid Q;clear h b Q;refine⟨Up,q,M,?_⟩;gi_wp2
  rw [<- G];refine⟨oP,.inl ⟨_,_,rfl,run_takeDeferred A,?_⟩⟩;exact⟨_,results_tmp rfl _ _ _,v,y,rfl,V,p.kept (grownBy_putObj_a _ _ _) (ownsRow_ne_a p A (fun cur e=>by cases e)),Y,E.grown (grownBy_putObj_a _ _ _) E.size (fun k e=>by cases e;omega)⟩
theorem Qfm (g:Nat)(lb:Array Value)(eg:∀args w,(callFunc g args).run prog w=.ok (.enter g args) w)
  (S:List Ky ->Prop) (N:Nat) (hN:N<=maxLen) (hNb:N*24<=140737488355328) (w:Ur) (hseq:SeqGives Fence.wide 4 prog g lb Qa9 S N w):
  Cl 142 #[.func (.func g) #[] lb] w fun e w'=>∃(v:Value) (j:List Ky),e=Ui v/\ S j/\ w'.ownsRow w.heap.size 174 2 v j.length (kRow j)/\ (v=Ue↔j=[])/\ Bl w w':=by
 have m:=hid ((callsIn_wide (n:=5)).1 (Qdi 5 oM g lb eg S N hN hNb w hseq));go_enter func142,ntmps142;go_wp2_with fail;refine m.mono ?_;rintro e w' ⟨v,j,rfl,q,y,u,r⟩;have k:=hid (And.intro q (And.intro y (And.intro u r)));clear q y u r m;go_wp2_with fail;go_ret;exact⟨v,j,rfl,k.1,k.2.1,k.2.2.1,k.2.2.2⟩
theorem Qdr (Bm b nn:Nat)(f:Ky ->Option (Nat×Nat))(D0:DataW Value)(w:Ur)(hBm:Bm<w.heap.size)(hm:w.cell? (Ub Bm)=Uq (.map (Uq b)))(hF:FM w 174 Qa9 Qbl b nn f D0):
  SeqGives Fence.wide 4 prog 144 #[Uk (Uc Bm)] Qa9 (Qc8 f) (Maps.size D0) w:=fun l J W hW hJ hY h0=>by
 have j:FM W 174 Qa9 Qbl b nn f D0:=⟨QbO hF.own (hW.block b hF.own.lt),hF.at',hF.cov,hF.ok⟩;exact Qhb 4 l Bm b nn f D0 J oM hY W hJ ((hW.cell (p:=(Ub Bm)) hBm).trans hm) j h0
theorem Qce (x y:Ky)(w:Ur):Cl 126 #[Uo #[Um x.1,Ud x.2],Uo #[Um y.1,Ud y.2]] w fun e w'=>e=Ui (Ud (QcR x y))/\ Bw w w':=by
 obtain⟨s,k⟩:=x;obtain⟨q,m⟩:=y;dsimp only;obtain⟨W,u⟩:=zE ((w.alloc (Uj #[Um s,Ud k] 174)).alloc (Uj #[Um q,Ud m] 174));have b:Bw w W:=by rw [<- u];exact⟨Qad _ _ _,Uv _⟩
 have t:Bx2 W w.heap.size (Um s) (Ud k):=u▸(Bx2.made w _ _ _).allocs _;have o:Bx2 W (w.heap.size+1) (Um q) (Ud m):=by rw [<- u];simpa using Bx2.made (w.alloc (Uj #[Um s,Ud k] 174)) (Um q) (Ud m) 174
 have v:=hid b;have h:=hid t;have g:=hid o;clear b t o;go_enter func126,ntmps126;go_wp2_with fail;try rw [u]
 clear u;have z:Hid (∀w',Bw W w' ->(Bw W w'/\ w'.cell? (Ub w.heap.size)=Uq (Um s)/\ w'.cell? (Ua w.heap.size 1)=Uq (Ud k)/\ w'.cell? (Ua (w.heap.size+1) 0)=Uq (Um q)/\ w'.cell? (Ua (w.heap.size+1) 1)=Uq (Ud m))):=hid (fun w' r=>by
  have x0:=h.bw r.1 h.lt;have p:=g.bw r.1 g.lt;exact⟨r,x0.c0,x0.c1,p.c0,p.c1⟩)
 refine zA z ⟨zI.drew,Nat.le_succ _⟩ (fun qh=> ?_);refine tZ 0 5 ?_;refine tZ 1 6 ?_;refine tZ 2 7 ?_;refine tZ 3 8 ?_;refine tZ 5 10 ?_;refine tZ 6 11 ?_;refine tZ 7 12 ?_;refine tZ 8 13 ?_;refine cZ 4 ?_;intro K j;go_simp;refine(QiT s q _).mono ?_;rintro e w1 ⟨rfl,rfl⟩;refine j.out _ _ qh (fun qh=> ?_);clear j K;try simp only [zP]
 refine cZ 9 ?_;intro K j;go_simp;refine(Qcd k m _).mono ?_;rintro e E ⟨rfl,rfl⟩;refine j.out _ _ qh (fun qh=> ?_);clear j K;try simp only [zP]
 refine cZ 10 ?_;intro K j;go_simp;have r:Bw W (W.drew.alloc (Uj #[Ud (QbI s q),Ud (QaZ k m)] 3)):=⟨qh.1.1.alloc qh.1.1.size _,qh.1.2⟩;refine j.out _ _ (z _ r) (fun qh=> ?_);clear j K;try simp only [zP]
 refine cZ 11 ?_;intro K j;go_simp;refine(QiR _ 2 2 (fun i=>if i=0 then QbI s q else QaZ k m) _ oM (fun i hi=> ?_)).mono ?_
 ·match i,hi with
  | 0,_=>simp
  | 1,_=>simp
 rintro e M ⟨rfl,rfl⟩;refine j.out _ _ qh (fun qh=> ?_);clear j K;try simp only [zP]
 refine tZ 12 4 ?_;refine zD ?_;have A:Hid (Bw w (W.drew.alloc (Uj #[Ud (QbI s q),Ud (QaZ k m)] 3))):=hid ⟨v.1.trans (qh.1.1.mono v.1.size),Uw v.2 qh.1.2⟩;clear qh r;go_wp2_with fail;go_ret;exact⟨QbF nz2,A⟩
instance:Inhabited Ky:=⟨(ByteArray.empty,0)⟩
theorem QbD (x:Ky):(kCells x).length=2:=rfl
theorem Qbr (ss:List Ky):(kRow ss).length=ss.length*2:=by
 induction ss with
 | nil=>rfl
 | cons x r ih=>simp only [kRow,Vs,UB,Vq] at*;rw [ih,QbD];omega
theorem kRow_get:∀(ss:List Ky) (t:Nat),t<ss.length*2 ->(kRow ss)[t]? =Uq ((kCells ss.toArray[t/2]!)[t%2]!)
 | [],t,h=>by simp at h
 | x::r,t,h=>by
  rcases Nat.lt_or_ge t 2 with q|q
  ·have:t=0 \/t=1:=oM;rcases this with rfl|rfl<;>simp [kRow,kCells]
  ·obtain⟨u,rfl⟩:∃u,t=u+2:=⟨t - 2,oM⟩;have y:=kRow_get r u (by simp at h;omega);have j:(u+2)/2=u/2+1:=oM;have k:(u+2)%2=u%2:=oM;rw [j,k];have v:u/2<r.length:=(by simp at h;omega);have m:(x::r).toArray[u/2+1]! =r.toArray[u/2]! :=by
    rw [getElem!_pos _ _ oS,getElem!_pos _ _ (oU v)];simp
   rw [m,<- y];simp [kRow,kCells]
theorem QdU (ss:List Ky):(flatK kCells 2 ss.toArray).toList=kRow ss:=by
 apply Yu;intro t;by_cases h:t<ss.length*2
 ·rw [kRow_get ss t h];have j:t<(flatK kCells 2 ss.toArray).size:=oU h;have:=get_flatK kCells 2 ss.toArray t (oU h);rw [getElem!_pos _ t j] at this;rw [YG,YH j,this]
 ·rw [UX oS,UX (by rw [Qbr];omega)]
theorem Qch{os:Array Obj}(d:Array Value)(hb:w.heap[g]? =Uq (.cells cur e fr)):
  (grow (putRow id (Sort.ahead w n) g 0 d) os).heap[g]? =Uq (.cells (putCells id 0 d cur) e fr):=by
 have j:g<w.heap.size:=(Array.getElem?_eq_some_iff.1 hb).1;rw [heap_grow_old _ _ (by simpa [putRow,mapBlock,Sort.ahead] using j)];simp [putRow,mapBlock,Sort.ahead,YI,hb,onCells]
theorem Qb0{os:Array Obj}(d:Array Value):w.grownBy (grow (putRow id (Sort.ahead w n) g 0 d) os) (Uq g):=by
 refine⟨rfl,rfl,rfl,by simp [grow,putRow,mapBlock,Sort.ahead],fun k hk hne=> ?_⟩;rw [heap_grow_old _ _ (by simpa [putRow,mapBlock,Sort.ahead] using hk)];have:g≠k:=fun e=>hne (by rw [e]);simp [putRow,mapBlock,Sort.ahead,YI,this]
theorem Qe2 (cur:Array Value)(ts:List Value)(h:ts.length<=cur.size):(putCells id 0 ts.toArray cur).toList.take ts.length=ts:=by
 apply Yu;intro j;by_cases k:j<ts.length
 ·rw [Vu k,YG];simp [putCells,k,show j<cur.size by omega]
 ·rw [Yv oM,UX oM]
theorem QgP:∀args w,(callFunc 126 args).run prog w=.ok (.enter 126 args) w:=enters_of func126 oK rfl
theorem Qfk (blk off size:Nat)(w:Ur):CmpLays prog 126 #[] kCells 2 QcR blk off size w:=fun m os dk _ x y=>
 (Qce x y _).mono fun e w' ⟨he,hb⟩=>⟨he,hb.grown⟩
theorem Qew (B blk cap:Nat)(ss:List Ky)(w:Ur)(ho:w.ownsRow B 174 2 (Uf (Uc blk) ss.length cap) ss.length (kRow ss))(hsz:ss.length<=1048576):
  Cl 143 #[Uf (Uc blk) ss.length cap,.func (.func 126) #[] #[]] w fun e w'=>e=Ui (Ul #[])/\∃ts:List Ky,ts.Perm ss/\ SortedIn (ltOf QcR) 0 ts.length ts.toArray/\ w'.ownsRow B 174 2 (Uf (Uc blk) ss.length cap) ss.length (kRow ts)/\ w.grownBy w' (Uq blk):=by
 rcases ho.2 with ⟨o,_⟩|⟨Y,V,z,q,E,m,i,b,p,s⟩
 ·cases o
 cases q;have M:blk<w.heap.size:=(Array.getElem?_eq_some_iff.1 m).1;have A:HoldsK kCells 2 w blk 0 ss.toArray:=by
  intro t U;have y:t<ss.length*2:=oU U;refine⟨?_,by simp [VQ,m]⟩;have k:(z.toList.take (ss.length*2))[t]? =(kRow ss)[t]? :=by rw [s]
  rw [Vu y,kRow_get ss t y] at k;have r:=get_flatK kCells 2 ss.toArray t (oU y);rw [r];simp only [YO,m,VS,Option.isSome_none,Bool.false_eq_true,if_false];rw [<- YG,k];rfl
 have u:=AnyQ.slices_SortFunc Tryz.sortK 2 Tryz.isAgg174 Tryz.sizeOf174 kCells QbD (fun x v q=>by simp [kCells] at q;rcases q with rfl|rfl<;>rfl) QcR QaR.key.swo 126 #[] blk 0 cap ss.toArray w QgP (Qfk blk 0 _ w) A M oS;change Cl 143 _ _ _ at u;simp only [Yq] at u;refine u.mono ?_;rintro e w' ⟨rfl,d',n,Z,h,Q,rfl⟩;have j:d'.size=ss.length:=oU h.1;have O:d'.toList.Perm ss:=by
  have:=h.2.2;have k:d'.extract 0 ss.length=d':=j▸oP;have r:ss.toArray.extract 0 ss.length=ss.toArray:=oP;rw [k,r] at this;simpa using this
 refine⟨rfl,d'.toList,O,by simpa [j] using Q,⟨by rw [Qbr];simp [j],.inr ⟨blk,cap,_,rfl,E,Qch _ m,i,b,by simp [putCells,p],?_⟩⟩,Qb0 _⟩;have g:flatK kCells 2 d'=(kRow d'.toList).toArray:=by
  have:=QdU d'.toList;simp only [YJ] at this;rw [<- this]
 rw [g];have:=Qe2 z (kRow d'.toList) (by rw [Qbr];simp [j];omega);rw [Qbr] at this;simpa [j] using this
theorem Qds(h:ts.Nodup)(hs:SortedIn (ltOf QcR) 0 ts.length ts.toArray):ts.Pairwise (fun x y=>QcR x y<0):=by
 have:=QaR.key.rises (d:=ts.toArray) (oU hs) (oU h);simpa using this
theorem QcH (g:Nat)(lb:Array Value)(eg:∀args w,(callFunc g args).run prog w=.ok (.enter g args) w)(N:Nat)(f:Ky ->Option (Nat×Nat))(w:Ur)(hN:N<=1048576)(hseq:SeqGives Fence.wide 4 prog g lb Qa9 (Qc8 f) N w):
  Cl 124 #[.func (.func g) #[] lb,.func (.func 126) #[] #[]] w fun e w'=>∃(v:Value) (j:List Ky),e=Ui v/\ j.Pairwise (fun x y=>QcR x y<0)/\ (∀x,x∈j↔f x≠Up)/\ j.length<=1048576/\ w'.ownsRow w.heap.size 174 2 v j.length (kRow j)/\ Bl w w':=by
 have o:=hid (Qfm g lb eg _ N oL oM w (SeqGives.bounded hseq));go_enter func124,ntmps124;go_wp2_with fail;refine o.mono ?_;rintro e w1 ⟨v,b,rfl,⟨h,B⟩,q,H,t⟩;rcases q.2 with ⟨rfl,J⟩|⟨Z,cap,L,rfl,G,X,C,D,F,P⟩
 ·have I:b=[]:=Yw J;subst I;have r:=hid t;have u:=hid h;have U:=hid q;have i:=AnyF.slices_SortFunc_none Tryz.sortK Up 0 (.func (.func 126) #[] #[]) w1;change Cl 143 _ _ _ at i;have m:=hid i;clear t h q o i;go_wp2_with fail;refine m.mono ?_;rintro e K ⟨rfl,rfl⟩;clear m;go_wp2_with fail;go_ret;exact⟨_,[],rfl,List.Pairwise.nil,fun x=>u.2 x,oP,U,r⟩
 ·have m:=hid (Qew w.heap.size Z cap b w1 q oM);have r:=hid t;have u:=hid h;have O:Hid (b.length<=1048576):=hid oM;have Y:=hid G;clear t h q o H;go_wp2_with fail;refine m.mono ?_;rintro e K ⟨rfl,j,A,E,s,p⟩;have Q:=hid s;have M:=hid (r.grown p r.size (fun k e=>by injection e with e;have:=Y.out;omega));have z:=hid A;have V:=hid E;clear s p A E m;go_wp2_with fail;go_ret;refine⟨_,j,rfl,Qds (z.nodup_iff.2 u.1) V,fun x=>by rw [z.mem_iff];exact u.2 x,by rw [z.length_eq];exact O,?_,M⟩;rw [z.length_eq];exact Q
theorem Qf3 (n l Bm:Nat)(J:List Ky ->Ur ->Prop)(W:Ur)(hJ:AbidesFrom W.heap.size J)(hm:W.cell? (Ub Bm)=Uq (.map Up))(h0:J [] W):
  CallsIn Fence.wide n prog 144 #[.func (.yield l) #[] #[],Uk (Uc Bm)] W fun e W'=>(∃v,e=Ui v)/\∃ss:List Ky,Qc8 (fun _=>(Up:Option (Nat×Nat))) ss/\ J ss W':=by
 have k:=run_range_nilMap (P:=prog) W 121 174 124 underlying121;have j:∀ty,(Instr.next (Uk (Uc W.heap.size)) false ty).run prog (W.alloc (.mapIter Up 0 #[] 0))=_:=fun ty=>run_next_nilMap _ ty 0 0 #[];refine callsIn_of_wp func144 rfl trivial ?_ rfl;simp only [ntmps144,Yq,Vq,Yr,YB,YC,YE,YF,Ys,Yt,VX,Ya];gi_wp2
 refine wpIn_loop_rounds 1 ?_;rw [roundsIn_succ];gi_wp2
 go_end0;exact⟨⟨_,rfl⟩,[],⟨Ye,fun x=>oP⟩,hJ [] W _ Up h0 (VG W _ Up) (fun r e=>by cases e)⟩
theorem Qha (mb:Option Nat)(w:Ur):Cl 125 #[.map mb] w fun e w'=>e=Ui (.func (.func 144) #[] #[Uk (Uc w.heap.size)])/\ w'=w.alloc (Uj #[.map mb] 121):=by
 go_enter func125,ntmps125;go_wp2_with fail;go_ret;exact⟨rfl,rfl⟩
def Qjz (N:List Ky ->Option (Nat×Nat))(p:List Ky)(y:Ky):Option (Nat×Nat):=N (p++[y])
theorem QcI (B c:Nat)(N:List Ky ->Option (Nat×Nat))(M:List Ky ->Dt ->Option ByteArray)(p:List Ky)(w:Ur)(hT:Tre w B N M c)(hc:c<=1048576):
  Cl 100 #[Uo #[.map (mF (N p)),.map (mS (N p))]] w fun e w'=>∃(v:Value) (j:List Ky),e=Ui v/\ j.Pairwise (fun x y=>QcR x y<0)/\ (∀x,x∈j↔Qjz N p x≠Up)/\ j.length<=1048576/\ w'.ownsRow w.heap.size 174 2 v j.length (kRow j)/\ Bl w w':=by
 obtain⟨m,h⟩:=zE (mF (N p));obtain⟨K,I⟩:=zE (mS (N p));rw [h,I];have s:Hid (∀w1,Bl w w1 ->∀Bm,Bm<w1.heap.size ->w1.cell? (Ub Bm)=Uq (.map m) ->∃n,n<=1048576/\ SeqGives Fence.wide 4 prog 144 #[Uk (Uc Bm)] Qa9 (Qc8 (Qjz N p)) n w1):=hid (fun w1 z Bm hBm k=>by
  cases e:N p with
  | some x=>
   obtain⟨D,U⟩:=(hT.bw z).kids p x e;have:m=Uq x.1:=(by rw [<- h,e];rfl);rw [this] at k;exact⟨Maps.size D,Uw U.own.size_le hc,Qdr Bm x.1 c _ D w1 hBm k U⟩
  | none=>
   have:m=Up:=(by rw [<- h,e];rfl);rw [this] at k;refine⟨0,oM,fun l J W q hJ hY h0=> ?_⟩;have P:Qjz N p=fun _=>Up:=funext fun y=>hT.up p y e;rw [P];exact Qf3 4 l Bm J W hJ ((q.cell (p:=(Ub Bm)) hBm).trans k) h0)
 obtain⟨W,q⟩:=zE (w.alloc (Uj #[.map m,.map K] 124));have O:Bl w W:=q▸zO _ _;have E:Bx2 W w.heap.size (.map m) (.map K):=q▸Bx2.made _ _ _ _;have T:=E.c0;have b:=hid O;clear hT O E h I;go_enter func100,ntmps100;go_wp2_with fail;try rw [q]
 clear q;refine(Qha m W).mono ?_;rintro e w1 ⟨rfl,t⟩;have z:Bl W w1:=by rw [t];exact zO _ _
 have Q:w1.cell? (Ub W.heap.size)=Uq (.map m):=by rw [t];simp
 have L:W.heap.size<w1.heap.size:=by rw [t];simp
 have u:=hid (b.trans (z.mono b.size));obtain⟨n,S,H⟩:=s w1 u W.heap.size L Q;have A:=hid (QcH _ _ (enters_of func144 oK rfl) n (Qjz N p) w1 S H);clear H t z Q L T s;go_wp2_with fail;refine A.mono ?_;rintro e w2 ⟨v,j,rfl,G,k,Y,Z,V⟩;have o:=hid (And.intro G (And.intro k Y));have X:=hid (u.trans (V.mono u.size));have C:Hid (w2.ownsRow w.heap.size 174 2 v j.length (kRow j)):=hid (by
  obtain⟨q1,i⟩:=Z;refine⟨q1,?_⟩;rcases i with i|⟨g,cap,F,e,R,r⟩
  ·exact .inl i
  ·exact .inr ⟨g,cap,F,e,Uw u.size R,r⟩)
 clear G k Y Z V A;go_wp2_with fail;go_ret;exact⟨v,j,rfl,o.1,o.2.1,o.2.2,C,X⟩
end Go.Proofs.YtmlmkaiibamabaaGreatDoor
namespace Go.Proofs.YtmlmkaiibamabaaGreatDoor.Ds
open Go.ChangeShapes Go.WideShapes Go.ChangeAt Go.RowKit Go.Maps Go.Sort Go.Lib Go.Shelf Go.Proofs.Tryz
open Go.Value renaming int → Ug, pointer → Uk, string → Um, bool → Un, agg → Uo, slice → Uf, tuple → Ul
open Go.IntKind renaming i64 → Uh
open Go.Ending renaming returned → Ui
open Go.Obj renaming cells → Uj
open Option renaming none → Up, some → Uq
open Go renaming World → Ur, Addr → Us
open List renaming size_toArray → Yq, length_cons → Vq, length_nil → Yr, push_toArray → Ys, append_toArray → Yt, nil_append → VX, cons_append → Ya, flatMap_cons → Vs, length_append → UB, ext_getElem? → Yu, getElem?_eq_none → UX, getElem?_take_of_lt → Vu, getElem?_take_eq_none → Yv, eq_nil_of_length_eq_zero → Yw, nodup_nil → Ye, append_assoc → Vg, getElem?_map → Yj, mem_of_getElem? → Yx, take_add_one → Vl, map_cons → UD, sum_cons → Vz, length_take → Vo, take_length → Vn, take_append_drop → Yy, flatMap_append → VU, length_filter_le → Yz, dropLast_concat_getLast → YA, append_nil → VW
open Nat renaming reduceAdd → YB, reduceSub → YC, le_refl → Uv, le_trans → Uw, zero_add → VS, zero_le → Ux, le_of_lt → YD, lt_of_lt_of_le → Ut, add_assoc → UQ, mul_le_mul_right → UR
open _root_.Array renaming replicate_succ → YE, replicate_zero → YF, getElem?_toList → YG, getElem?_eq_getElem → YH, getElem?_modify → YI, toArray_toList → YJ
open Go.World renaming grownBy_alloc → VG, putObj_heap_other → YK, putObj_heap_same → YL, cell?_of_block → US, alloc_heap_new → YM, size_alloc → YN, frozen? → VQ, cell? → YO, ownsRow_nil → VE, setCell → UL, cell?_setCell_far → UJ
open Option renaming map_eq_some_iff → Ym, isSome → YP
variable {B b bd bm bm' c cap d g hi lo lo' m n:Nat}{F R T:Nat ->Int}{J l:List Lf}{a x:Option Us}{cur:Array Value}{e t:TypeId}{fr x0 y0 z0:Nat×Nat}{mo:Option Nat}{p:List ByteArray}{ts:List Ky}{ul:List Rn}{v v0 v1 v2:Value}{w w' w1:Ur}{y:Ky}
theorem Qhb (n l Bm b nn:Nat)(f:Dt ->Option ByteArray)(D0:DataW Value)(J:List Dt ->Ur ->Prop)(hn:1<=n)
  (hY:∀pre x W,J pre W ->pre.length<Maps.size D0 ->YieldAt Fence.wide (n - 1) prog l #[dtV x] W fun e W'=>e=Ui (Un true)/\ J (pre++[x]) W'/\ KeepsWalks W W')
  (W:Ur) (hJ:AbidesFrom W.heap.size J) (hm:W.cell? (Ub Bm)=Uq (.map (Uq b))) (hF:FM W 83 dtV Qb8 b nn f D0) (h0:J [] W):
  CallsIn Fence.wide n prog 174 #[.func (.yield l) #[] #[],Uk (Uc Bm)] W fun e W'=>(∃v,e=Ui v)/\∃j,Qc8 f j/\ J j W':=by
 have P:=hF.own;have y:=hid hF;have z:=hid hJ;have V:=hid hY;clear hF hJ hY;refine callsIn_of_wp func174 rfl trivial ?_ rfl;simp only [ntmps174,Yq,Vq,Yr,YB,YC,YE,YF,Ys,Yt,VX,Ya];gi_wp2_with (first
  | (gi_at_range;refine wpListIn_range_own _ rfl _ 122 rfl 83 169 Qau underlying122 _ b nn _ rfl P ?_;intro w0 R L He)
  | gi_in)
 try go_frame
 gi_loopw [3] (fun _ wr=>∃(t:Lit ->Bool) (h:Nat) (j:List Dt),wr.ranges prog 83 QgE b W.heap.size nn D0 t h/\ j.length+h<=Maps.size D0/\ Qdh 83 dtV f t j/\ J j wr)
  (fun _ wr=>wr.rangeLeft b W.heap.size)
 case atStart=>exact⟨_,_,[],R,oP,Qdh.start y,z [] W w0 Up h0 L (fun r e=>by cases e)⟩
 case round=>
  obtain⟨t,h,j,g,O,A,E⟩:=hrel;have i:=hid A;have p:=hid O;clear A O;gi_wp2_with (first
   | (gi_at_next;refine wpListIn_next_ranges _ rfl _ rfl 83 Qau QgE dtV id (fun key kl hk=>Qgs hk) (fun v _ _=>⟨v,rfl⟩) b W.heap.size nn _ _ _ rfl g ?_ ?_)
   | gi_in)
  ·intro Hd C;gi_wp2
   go_end0;exact⟨⟨_,rfl⟩,j,i.done y C,E⟩
  ·intro q m c kl yd yp k Y B D hv I S F N T K;have Z:J j k:=z j wr k (Uq W.heap.size) E N (fun r e=>by cases e;exact⟨Uv _,g.iter_walk⟩);obtain⟨o,u⟩:=zE (k.alloc (Uj #[Ud q,Ud m] 83));have G:J j o:=(by rw [<- u];exact z j k _ Up Z (VG k _ Up) (fun r e=>by cases e));obtain⟨fn,Hc,Ha,Hb,hy,M⟩:=V j (q,m) o G (oH p);have s:Bx2 o k.heap.size (Ud q) (Ud m):=u▸Bx2.made _ _ _ _;have Q:=S.alloc (Uj #[Ud q,Ud m] 83);rw [u] at Q;obtain⟨q0,q1⟩:=s.q2;clear T s;dsimp only [dtV,QfT] at K hy M ⊢;gi_wp2
   try rw [u]
   refine M.mono ?_;rintro e W3 ⟨rfl,H,X⟩;gi_wp2
   have U:=Q.of_walks X;go_roundw;case rel=>exact⟨_,Y,j++[(q,m)],U,by have:=p.out;simp;omega,i.step y Qau (fun _ _=>QcA) B D I,H⟩
   case measure=>rw [U.left_eq,g.left_eq];exact F
def kCells (x:Dt):List Value:=[Ud x.1,Ud x.2]
def kRow (ss:List Dt):List Value:=ss.flatMap kCells
theorem Qeg (ss:List Dt)(x:Dt):kRow (ss++[x])=kRow ss++kCells x:=by simp [kRow]
theorem Qo9:(prog.info? 83).map (fun i=>(i.zero,i.size,i.bytes))=Uq (Uq (Uo #[Ud 0,Ud 0]),2,16):=oK
def apA:Code:=(Code.region 2 #[{dst:=Uq 5,op:=Op.alloc 83,type:=0,pos:= "iter.go:51",after:=#[],guard:=Up},{dst:=Up,op:=Op.store 83 (Operand.tmp 5) (Operand.tmp 7),type:=0,pos:= "iter.go:51",after:=#[{on:=0,ground:=Ground.data},{on:=0,ground:=Ground.phase}],guard:=Up}] false)
def apB:Code:=(Code.block 1 (Code.region 3 #[{dst:=Uq 8,op:=Op.load 222 (Operand.tmp 2),type:=222,pos:= "iter.go:52",after:=#[],guard:=Up},{dst:=Uq 9,op:=Op.load 83 (Operand.tmp 5),type:=83,pos:= "iter.go:52",after:=#[],guard:=Up},{dst:=Uq 10,op:=Op.buildSlice 222 1 #[(0,Operand.tmp 9)],type:=222,pos:= "iter.go:52",after:=#[{on:=1,ground:=Ground.data}],guard:=Up},{dst:=Uq 11,op:=Op.call {callee:=Callee.builtin Builtin.append,args:=#[Operand.tmp 8,Operand.tmp 10],argTypes:=#[222,222]},type:=222,pos:= "iter.go:52",after:=#[{on:=0,ground:=Ground.data},{on:=2,ground:=Ground.data}],guard:=Up},{dst:=Up,op:=Op.store 222 (Operand.tmp 2) (Operand.tmp 11),type:=0,pos:= "iter.go:52",after:=#[{on:=3,ground:=Ground.data},{on:=3,ground:=Ground.chain},{on:=0,ground:=Ground.phase},{on:=1,ground:=Ground.phase},{on:=2,ground:=Ground.phase},{on:=3,ground:=Ground.phase}],guard:=Up}] false))
def Qbz (fn:FuncId)(sv:Value)(Bs D:Nat)(st:LoopState):Loop:=
 {state:=st,pending:=Up,fn,tmps:=#[Ue,sv,Uk (Uc Bs),undef,Ue,undef,sv,undef,undef,undef,undef,undef,undef],params:=#[7],assign:=apA,body:=apB,defers:=D}
structure Qir (w0:Ur)(fn:FuncId)(sv:Value)(Bs l D:Nat)(ss:List Dt)(W:Ur):Prop where
 box:∃v,W.heap[Bs]? =Uq (Uj #[v] 222 (0,0))/\ W.ownsRow w0.heap.size 83 2 v ss.length (kRow ss)/\ (v=Ue↔ss=[])
 L:W.heap[l]? =Uq (.loop (Qbz fn sv Bs D .ready))
 K:W.heap[D]? =Uq (.deferred (Uq []))
 bw:Bl w0 W
theorem Qcb (w0:Ur)(fn:FuncId)(sv:Value)(Bs l D B:Nat)(hB:w0.heap.size<=B):AbidesFrom B (Qir w0 fn sv Bs l D):=fun s W W' row h hg hrow=>by
 have j:∀r,row=Uq r ->∃o:Obj,W.heap[r]? =Uq o/\ o.isWalk=true:=fun r e=>(hrow r e).2;obtain⟨v,m,u,q⟩:=h.box;exact⟨⟨v,(grownBy_keeps hg j m rfl).trans m,ownsRow_abides_a u hg j,q⟩,(grownBy_keeps hg j h.L rfl).trans h.L,(grownBy_keeps hg j h.K rfl).trans h.K,h.bw.grown hg h.bw.size (fun k e=>Uw hB (hrow k e).1)⟩
theorem Qfg (m:Nat)(w0:Ur)(fn:FuncId)(sv:Value)(Bs l D:Nat)(hBl:Bs≠l)(hDl:D≠l)(hDB:D≠Bs)(h0B:w0.heap.size<=Bs)(h0l:w0.heap.size<=l)
    (N:Nat) (hN:N<=maxLen) (hNb:N*16<=140737488355328) (ss:List Dt) (x:Dt) (W:Ur) (h:Qir w0 fn sv Bs l D ss W) (hlen:ss.length<N):
    YieldAt Fence.wide m prog l #[dtV x] W fun e W'=>e=Ui (Un true)/\ Qir w0 fn sv Bs l D (ss++[x]) W'/\ KeepsWalks W W':=by
  have Hj:222≠83:=oD;obtain⟨i0,hi,Ht,Hu,Hv⟩:=info_parts Qo9;refine⟨fn,#[Ue,sv,Uk (Uc Bs),undef,Ue,undef,sv,dtV x,undef,undef,undef,undef,undef],apA,apB,by simpa [Qbz] using run_yield (P:=prog) (args:=#[dtV x]) h.L rfl,roundIn_of_wpIn trivial ?_⟩;obtain⟨s,p⟩:=x;obtain⟨g,X⟩:=zE (W.alloc (Uj #[Ud s,Ud p] 83));have u:Qir w0 fn sv Bs l D ss g:=by rw [<- X];exact Qcb w0 fn sv Bs l D w0.heap.size zL ss W _ Up h (VG W _ Up) (fun r e=>by cases e)
  have Hi:KeepsWalks W g:=X▸KeepsWalks.alloc _ _;have E:Bx2 g W.heap.size (Ud s) (Ud p):=X▸Bx2.made _ _ _ _;have H0:l<W.heap.size:=(Array.getElem?_eq_some_iff.1 h.L).1;obtain⟨v,hv,C,_⟩:=u.box;have hl:l<g.heap.size:=(Array.getElem?_eq_some_iff.1 u.L).1;have Hm:=run_beginRound (P:=prog) u.L rfl;obtain⟨q,i⟩:∃q,g.putObj l (.loop {Qbz fn sv Bs D .ready with state:=.busy})=q:=⟨_,rfl⟩;rw [i] at Hm;have U:g.grownBy q (Uq l):=i▸grownBy_putObj_a _ _ _;have Ho:KeepsWalks W q:=Hi.trans (i▸KeepsWalks.putObj _ u.L rfl);have Z:q.heap[Bs]? =Uq (Uj #[v] 222 (0,0)):=i▸(YK hBl).trans hv;have I:q.heap[D]? =Uq (.deferred (Uq [])):=i▸(YK hDl).trans u.K;have J:q.heap[l]? =Uq (.loop {Qbz fn sv Bs D .ready with state:=.busy}):=i▸YL hl;have F:q.ownsRow w0.heap.size 83 2 v ss.length (kRow ss):=C.kept U (ownsRow_ne_a C u.L (fun cur e=>by cases e));have Q:Bl w0 q:=u.bw.grown U u.bw.size (fun k e=>by cases e;exact h0l);have H:q.heap[W.heap.size]? =g.heap[W.heap.size]? :=U.block _ E.lt (fun e=>oI e);have q0:q.cell? (Ub W.heap.size)=Uq (Ud s):=(US (a:=(Ub W.heap.size)) H).trans E.c0;have q1:q.cell? (Ua W.heap.size 1)=Uq (Ud p):=(US (a:=(Ua W.heap.size 1)) H).trans E.c1;obtain⟨Hw,Hy⟩:=cell_of_box_a Z;have Hb:Bs<q.heap.size:=(Array.getElem?_eq_some_iff.1 Z).1;have Hq:l<q.heap.size:=(Array.getElem?_eq_some_iff.1 J).1;have Hc:D<q.heap.size:=(Array.getElem?_eq_some_iff.1 I).1;have ne_of:∀{j:Nat} {o:Obj},q.heap[j]? =Uq o ->(∀cur,o≠.cells cur 83 (0,0)) ->Uq j≠v.ownBlock:=fun hj hno=>by
    rcases ownsRow_ne_a F hj hno with e|e
    · rw [e];simp
    · exact fun e'=>e e'.symm
  have G:=hid F;have HZ:=hid Q.size;clear i C F E H U Hi;unfold apA;dsimp only [dtV,QfT];gi_wp2_with gi_round_op_a
  unfold apB;gi_wp2_with (first
    | (gi_at_builtin;refine wpListIn_append_own _ rfl _ _ 222 rfl w0.heap.size 83 i0 (Uo #[Ud 0,Ud 0]) 2 16 underlying222 hi Ht Hu Hv rfl oD _ _ _ rfl (G.alloc _) (Ub q.heap.size) 1 1 [Ud s,Ud p] rfl rfl (cell_two_new _ _ _ _) (by simp [Value.oneCell']) oM oM (by have:=HZ.out;simp;omega) ?_;intro v' y B Hh Hk
       have R:y.heap[Bs]? =Uq (Uj #[v] 222 (0,0)):=(Hh.block Bs oS (ne_of Z (fun cur e=>Hj (Obj.cells.inj e).2.1))).trans ((Below.heap_alloc _ _ Bs Hb).trans Z)
       obtain⟨Hx,Hz⟩:=cell_of_box_a R
       obtain⟨b,t,M,rfl,Hd,Hn,H1,H2,H3,H4⟩:∃b t M,v'=Uf (Uc b) (ss.length+1) t/\ w0.heap.size<=b/\ y.heap[b]? =Uq (.cells M 83 (0,0))/\ ss.length+1<=t/\ t<=maxLen/\ M.size=t*2/\ M.toList.take ((ss.length+1)*2)=kRow ss++[Ud s,Ud p]:=by
         rcases B.2 with ⟨_,h0⟩|h'
         · exact absurd h0 oM
         · exact h'
       have S:=hid B
       clear B
       try go_frame)
    | gi_round_op_a)
  have V:(q.alloc (Uj #[Ud s,Ud p] 83)).grownBy y v.ownBlock:=Hh;have He:y.heap[l]? =Uq (.loop {Qbz fn sv Bs D .ready with state:=.busy}):=(V.block l oS (ne_of J (fun cur e=>by cases e))).trans ((Below.heap_alloc _ _ l Hq).trans J);have T:y.heap[D]? =Uq (.deferred (Uq [])):=(V.block D oS (ne_of I (fun cur e=>by cases e))).trans ((Below.heap_alloc _ _ D Hc).trans I);obtain⟨z,A⟩:=zE (y.setCell (Ub Bs) (Uf (Uc b) (ss.length+1) t));rw [A];have Y:y.grownBy z (Uq Bs):=A▸grownBy_setCell0_a _ _ _;have Hs:z.heap[Bs]? =Uq (Uj #[Uf (Uc b) (ss.length+1) t] 222 (0,0)):=A▸heap_setCell_box_a _ R;have O:z.heap[l]? =Uq (.loop {Qbz fn sv Bs D .ready with state:=.busy}):=(Y.block l (Array.getElem?_eq_some_iff.1 He).1 (fun e=>hBl (by cases e;rfl))).trans He;have Hl:z.heap[D]? =Uq (.deferred (Uq [])):=(Y.block D (Array.getElem?_eq_some_iff.1 T).1 (fun e=>hDB (by cases e;rfl))).trans T;have Ha:=S.kept Y (ownsRow_ne_a S R (fun cur e=>Hj (Obj.cells.inj e).2.1));have Hr:l<z.heap.size:=(Array.getElem?_eq_some_iff.1 O).1;have Hf:Bl w0 y:=(Q.alloc Q.size _).grown V (by have:=Q.size;simp;omega) (fun k e=>(G.lt k e).1);have Hg:Bl w0 z:=Hf.grown Y Hf.size (fun k e=>by cases e;exact h0B);have Hp:KeepsWalks W z:=((Ho.trans (KeepsWalks.alloc _ _)).trans (KeepsWalks.of_grownBy V (ownsRow_not_walk_a (G.alloc _)))).trans (A▸KeepsWalks.setCell _ _ _);clear A;refine⟨_,_,run_endRound Up O,rfl,⟨⟨_,(YK hBl).trans Hs,?_,oP⟩,YL Hr,(YK hDl).trans Hl,Hg.grown (grownBy_putObj_a _ _ _) Hg.size (fun k e=>by cases e;exact h0l)⟩,Hp.trans (KeepsWalks.putObj _ O rfl)⟩;have:=Ha.kept (grownBy_putObj_a z l (.loop {{Qbz fn sv Bs D .ready with state:=.busy} with state:=if (Up:Option Code).isNone then .ready else .done,pending:=Up})) (ownsRow_ne_a Ha O (fun cur e=>by cases e));rw [Qeg];simpa [kCells] using this
theorem Qdi (n:Nat)(hn:2<=n)(g:Nat)(lb:Array Value)(eg:∀args w,(callFunc g args).run prog w=.ok (.enter g args) w)
  (S:List Dt ->Prop) (N:Nat) (hN:N<=maxLen) (hNb:N*16<=140737488355328) (w:Ur) (hseq:SeqGives Fence.wide (n - 1) prog g lb dtV S N w):
  CallsIn Fence.wide n prog 204 #[Ue,.func (.func g) #[] lb] w fun e w'=>∃(v:Value) (y:List Dt),e=Ui v/\ S y/\ w'.ownsRow w.heap.size 83 2 v y.length (kRow y)/\ (v=Ue↔y=[])/\ Bl w w':=by
 have F:222≠83:=oD;refine callsIn_of_wp_marks func204 rfl trivial ?_ rfl;simp only [ntmps204,Yq,Vq,Yr,YB,YC,YE,YF,Ys,Yt,VX,Ya];gi_wp2
 refine wpIn_rangeFunc ?_;intro r D;obtain⟨j,t⟩:=zE (w.alloc (Uj #[Ue] 222));have G:j.heap.size=w.heap.size+1:=t▸oP;have I:j.heap[w.heap.size]? =Uq (Uj #[Ue] 222 (0,0)):=t▸YM w _;have o:Bl w j:=t▸(RowKit.Below.refl _ w).alloc zL _;rw [t];obtain⟨m,z⟩:=zE ((j.alloc (.deferred (Uq []))).alloc (.loop (Qbz r (.func (.func g) #[] lb) w.heap.size j.heap.size .ready)));have Z:∀k,k<j.heap.size ->m.heap[k]? =j.heap[k]? :=fun k hk=>by
  rw [<- z];exact(Below.heap_alloc _ _ k oS).trans (Below.heap_alloc _ _ k hk)
 have i:Bl w m:=by rw [<- z];exact(o.alloc o.size _).alloc (by have:=o.size;simp;omega) _
 have U:Qir w r (.func (.func g) #[] lb) w.heap.size (j.heap.size+1) j.heap.size [] m:=
  ⟨⟨_,(Z w.heap.size oM).trans I,⟨rfl,.inl ⟨rfl,rfl⟩⟩,oP⟩,
   by rw [<- z];have:=YM (j.alloc (.deferred (Uq []))) (.loop (Qbz r (.func (.func g) #[] lb) w.heap.size j.heap.size .ready));rwa [YN] at this,
   by rw [<- z];exact(Below.heap_alloc _ _ _ oP).trans (YM j _),i⟩
 refine⟨j.heap.size+1,[{target:=.collected j.heap.size,args:=#[]}],m,{target:=.fn (.func g) lb,args:=#[.func (.yield (j.heap.size+1)) #[] #[]]},m,g,
  #[.func (.yield (j.heap.size+1)) #[] #[]]++lb,m,?_,?_,?_,?_,fun _=>oM,?_⟩
 ·rw [<- z];exact run_enterLoop_outer _ _ _ _ _
 ·simp [resolve,go_sem]
 ·intro f' B;trivial
 ·simp [invoke,go_sem,eg]
 ·refine(hseq (j.heap.size+1) (Qir w r (.func (.func g) #[] lb) w.heap.size (j.heap.size+1) j.heap.size) m i (Qcb _ _ _ _ _ _ _ i.size)
   (fun pre x W hJ hl=>Qfg (n - 1 - 1) w r _ w.heap.size (j.heap.size+1) j.heap.size oM oM oM zL oM N hN hNb pre x W hJ hl) U).mono ?_
  rintro e s ⟨⟨R,rfl⟩,y,V,u⟩;obtain⟨v,H,b,Y⟩:=u.box;have M:=run_endLoop (P:=prog) u.L (by simp [Qbz]);obtain⟨q,h⟩:∃q,s.putObj (j.heap.size+1) (.loop {Qbz r (.func (.func g) #[] lb) w.heap.size j.heap.size .ready with state:=.exhausted})=q:=⟨_,rfl⟩;rw [h] at M;have O:s.grownBy q (Uq (j.heap.size+1)):=h▸grownBy_putObj_a _ _ _;have J:q.heap[w.heap.size]? =Uq (Uj #[v] 222 (0,0)):=h▸(YK oM).trans H;have A:q.heap[j.heap.size]? =Uq (.deferred (Uq [])):=h▸(YK oM).trans u.K;have Q:=b.kept O (ownsRow_ne_a b u.L (fun cur e=>by cases e));have E:Bl w q:=u.bw.grown O u.bw.size (fun k e=>by cases e;omega);obtain⟨X,C⟩:=cell_of_box_a J;have p:=hid Q;clear h b Q;refine⟨Up,q,M,?_⟩;gi_wp2
  rw [<- G];refine⟨oP,.inl ⟨_,_,rfl,run_takeDeferred A,?_⟩⟩;exact⟨_,results_tmp rfl _ _ _,v,y,rfl,V,p.kept (grownBy_putObj_a _ _ _) (ownsRow_ne_a p A (fun cur e=>by cases e)),Y,E.grown (grownBy_putObj_a _ _ _) E.size (fun k e=>by cases e;omega)⟩
theorem Qfm (g:Nat)(lb:Array Value)(eg:∀args w,(callFunc g args).run prog w=.ok (.enter g args) w)
  (S:List Dt ->Prop) (N:Nat) (hN:N<=maxLen) (hNb:N*16<=140737488355328) (w:Ur) (hseq:SeqGives Fence.wide 4 prog g lb dtV S N w):
  Cl 172 #[.func (.func g) #[] lb] w fun e w'=>∃(v:Value) (j:List Dt),e=Ui v/\ S j/\ w'.ownsRow w.heap.size 83 2 v j.length (kRow j)/\ (v=Ue↔j=[])/\ Bl w w':=by
 have m:=hid ((callsIn_wide (n:=5)).1 (Qdi 5 oM g lb eg S N hN hNb w hseq));go_enter func172,ntmps172;go_wp2_with fail;refine m.mono ?_;rintro e w' ⟨v,j,rfl,q,y,u,r⟩;have k:=hid (And.intro q (And.intro y (And.intro u r)));clear q y u r m;go_wp2_with fail;go_ret;exact⟨v,j,rfl,k.1,k.2.1,k.2.2.1,k.2.2.2⟩
theorem Qdr (Bm b nn:Nat)(f:Dt ->Option ByteArray)(D0:DataW Value)(w:Ur)(hBm:Bm<w.heap.size)(hm:w.cell? (Ub Bm)=Uq (.map (Uq b)))(hF:FM w 83 dtV Qb8 b nn f D0):
  SeqGives Fence.wide 4 prog 174 #[Uk (Uc Bm)] dtV (Qc8 f) (Maps.size D0) w:=fun l J W hW hJ hY h0=>by
 have j:FM W 83 dtV Qb8 b nn f D0:=⟨QbO hF.own (hW.block b hF.own.lt),hF.at',hF.cov,hF.ok⟩;exact Qhb 4 l Bm b nn f D0 J oM hY W hJ ((hW.cell (p:=(Ub Bm)) hBm).trans hm) j h0
theorem Qce (x y:Dt)(w:Ur):Cl 150 #[Uo #[Ud x.1,Ud x.2],Uo #[Ud y.1,Ud y.2]] w fun e w'=>e=Ui (Ud (QbC x y))/\ Bw w w':=by
 obtain⟨s,k⟩:=x;obtain⟨q,m⟩:=y;dsimp only;obtain⟨W,u⟩:=zE ((w.alloc (Uj #[Ud s,Ud k] 83)).alloc (Uj #[Ud q,Ud m] 83));have b:Bw w W:=by rw [<- u];exact⟨Qad _ _ _,Uv _⟩
 have t:Bx2 W w.heap.size (Ud s) (Ud k):=u▸(Bx2.made w _ _ _).allocs _;have o:Bx2 W (w.heap.size+1) (Ud q) (Ud m):=by rw [<- u];simpa using Bx2.made (w.alloc (Uj #[Ud s,Ud k] 83)) (Ud q) (Ud m) 83
 have v:=hid b;have h:=hid t;have g:=hid o;clear b t o;go_enter func150,ntmps150;go_wp2_with fail;try rw [u]
 clear u;have z:Hid (∀w',Bw W w' ->(Bw W w'/\ w'.cell? (Ub w.heap.size)=Uq (Ud s)/\ w'.cell? (Ua w.heap.size 1)=Uq (Ud k)/\ w'.cell? (Ua (w.heap.size+1) 0)=Uq (Ud q)/\ w'.cell? (Ua (w.heap.size+1) 1)=Uq (Ud m))):=hid (fun w' r=>by
  have x0:=h.bw r.1 h.lt;have p:=g.bw r.1 g.lt;exact⟨r,x0.c0,x0.c1,p.c0,p.c1⟩)
 refine zA z ⟨zI.drew,Nat.le_succ _⟩ (fun qh=> ?_);refine tZ 0 5 ?_;refine tZ 1 6 ?_;refine tZ 2 7 ?_;refine tZ 3 8 ?_;refine tZ 5 10 ?_;refine tZ 6 11 ?_;refine tZ 7 12 ?_;refine tZ 8 13 ?_;refine cZ 4 ?_;intro K j;go_simp;refine(Qcd s q _).mono ?_;rintro e w1 ⟨rfl,rfl⟩;refine j.out _ _ qh (fun qh=> ?_);clear j K;try simp only [zP]
 refine cZ 9 ?_;intro K j;go_simp;refine(Qcd k m _).mono ?_;rintro e E ⟨rfl,rfl⟩;refine j.out _ _ qh (fun qh=> ?_);clear j K;try simp only [zP]
 refine cZ 10 ?_;intro K j;go_simp;have r:Bw W (W.drew.alloc (Uj #[Ud (QaZ s q),Ud (QaZ k m)] 3)):=⟨qh.1.1.alloc qh.1.1.size _,qh.1.2⟩;refine j.out _ _ (z _ r) (fun qh=> ?_);clear j K;try simp only [zP]
 refine cZ 11 ?_;intro K j;go_simp;refine(QiR _ 2 2 (fun i=>if i=0 then QaZ s q else QaZ k m) _ oM (fun i hi=> ?_)).mono ?_
 ·match i,hi with
  | 0,_=>simp
  | 1,_=>simp
 rintro e M ⟨rfl,rfl⟩;refine j.out _ _ qh (fun qh=> ?_);clear j K;try simp only [zP]
 refine tZ 12 4 ?_;refine zD ?_;have A:Hid (Bw w (W.drew.alloc (Uj #[Ud (QaZ s q),Ud (QaZ k m)] 3))):=hid ⟨v.1.trans (qh.1.1.mono v.1.size),Uw v.2 qh.1.2⟩;clear qh r;go_wp2_with fail;go_ret;exact⟨QbF nz2,A⟩
theorem QbD (x:Dt):(kCells x).length=2:=rfl
theorem Qbr (ss:List Dt):(kRow ss).length=ss.length*2:=by
 induction ss with
 | nil=>rfl
 | cons x r ih=>simp only [kRow,Vs,UB,Vq] at*;rw [ih,QbD];omega
theorem kRow_get:∀(ss:List Dt) (t:Nat),t<ss.length*2 ->(kRow ss)[t]? =Uq ((kCells ss.toArray[t/2]!)[t%2]!)
 | [],t,h=>by simp at h
 | x::r,t,h=>by
  rcases Nat.lt_or_ge t 2 with q|q
  ·have:t=0 \/t=1:=oM;rcases this with rfl|rfl<;>simp [kRow,kCells]
  ·obtain⟨u,rfl⟩:∃u,t=u+2:=⟨t - 2,oM⟩;have y:=kRow_get r u (by simp at h;omega);have j:(u+2)/2=u/2+1:=oM;have k:(u+2)%2=u%2:=oM;rw [j,k];have v:u/2<r.length:=(by simp at h;omega);have m:(x::r).toArray[u/2+1]! =r.toArray[u/2]! :=by
    rw [getElem!_pos _ _ oS,getElem!_pos _ _ (oU v)];simp
   rw [m,<- y];simp [kRow,kCells]
theorem QdU (ss:List Dt):(flatK kCells 2 ss.toArray).toList=kRow ss:=by
 apply Yu;intro t;by_cases h:t<ss.length*2
 ·rw [kRow_get ss t h];have j:t<(flatK kCells 2 ss.toArray).size:=oU h;have:=get_flatK kCells 2 ss.toArray t (oU h);rw [getElem!_pos _ t j] at this;rw [YG,YH j,this]
 ·rw [UX oS,UX (by rw [Qbr];omega)]
theorem Qch{os:Array Obj}(d:Array Value)(hb:w.heap[g]? =Uq (.cells cur e fr)):
  (grow (putRow id (Sort.ahead w n) g 0 d) os).heap[g]? =Uq (.cells (putCells id 0 d cur) e fr):=by
 have j:g<w.heap.size:=(Array.getElem?_eq_some_iff.1 hb).1;rw [heap_grow_old _ _ (by simpa [putRow,mapBlock,Sort.ahead] using j)];simp [putRow,mapBlock,Sort.ahead,YI,hb,onCells]
theorem Qb0{os:Array Obj}(d:Array Value):w.grownBy (grow (putRow id (Sort.ahead w n) g 0 d) os) (Uq g):=by
 refine⟨rfl,rfl,rfl,by simp [grow,putRow,mapBlock,Sort.ahead],fun k hk hne=> ?_⟩;rw [heap_grow_old _ _ (by simpa [putRow,mapBlock,Sort.ahead] using hk)];have:g≠k:=fun e=>hne (by rw [e]);simp [putRow,mapBlock,Sort.ahead,YI,this]
theorem Qe2 (cur:Array Value)(ts:List Value)(h:ts.length<=cur.size):(putCells id 0 ts.toArray cur).toList.take ts.length=ts:=by
 apply Yu;intro j;by_cases k:j<ts.length
 ·rw [Vu k,YG];simp [putCells,k,show j<cur.size by omega]
 ·rw [Yv oM,UX oM]
theorem QgP:∀args w,(callFunc 150 args).run prog w=.ok (.enter 150 args) w:=enters_of func150 oK rfl
theorem Qfk (blk off size:Nat)(w:Ur):CmpLays prog 150 #[] kCells 2 QbC blk off size w:=fun m os dk _ x y=>
 (Qce x y _).mono fun e w' ⟨he,hb⟩=>⟨he,hb.grown⟩
theorem Qew (B blk cap:Nat)(ss:List Dt)(w:Ur)(ho:w.ownsRow B 83 2 (Uf (Uc blk) ss.length cap) ss.length (kRow ss))(hsz:ss.length<=1048576):
  Cl 173 #[Uf (Uc blk) ss.length cap,.func (.func 150) #[] #[]] w fun e w'=>e=Ui (Ul #[])/\∃ts:List Dt,ts.Perm ss/\ SortedIn (ltOf QbC) 0 ts.length ts.toArray/\ w'.ownsRow B 83 2 (Uf (Uc blk) ss.length cap) ss.length (kRow ts)/\ w.grownBy w' (Uq blk):=by
 rcases ho.2 with ⟨o,_⟩|⟨Y,V,z,q,E,m,i,b,p,s⟩
 ·cases o
 cases q;have M:blk<w.heap.size:=(Array.getElem?_eq_some_iff.1 m).1;have A:HoldsK kCells 2 w blk 0 ss.toArray:=by
  intro t U;have y:t<ss.length*2:=oU U;refine⟨?_,by simp [VQ,m]⟩;have k:(z.toList.take (ss.length*2))[t]? =(kRow ss)[t]? :=by rw [s]
  rw [Vu y,kRow_get ss t y] at k;have r:=get_flatK kCells 2 ss.toArray t (oU y);rw [r];simp only [YO,m,VS,Option.isSome_none,Bool.false_eq_true,if_false];rw [<- YG,k];rfl
 have u:=AnyQ.slices_SortFunc Tryz.sortD 2 Tryz.isAgg83 Tryz.sizeOf83 kCells QbD (fun x v q=>by simp [kCells] at q;rcases q with rfl|rfl<;>rfl) QbC QaR.dot.swo 150 #[] blk 0 cap ss.toArray w QgP (Qfk blk 0 _ w) A M oS;change Cl 173 _ _ _ at u;simp only [Yq] at u;refine u.mono ?_;rintro e w' ⟨rfl,d',n,Z,h,Q,rfl⟩;have j:d'.size=ss.length:=oU h.1;have O:d'.toList.Perm ss:=by
  have:=h.2.2;have k:d'.extract 0 ss.length=d':=j▸oP;have r:ss.toArray.extract 0 ss.length=ss.toArray:=oP;rw [k,r] at this;simpa using this
 refine⟨rfl,d'.toList,O,by simpa [j] using Q,⟨by rw [Qbr];simp [j],.inr ⟨blk,cap,_,rfl,E,Qch _ m,i,b,by simp [putCells,p],?_⟩⟩,Qb0 _⟩;have g:flatK kCells 2 d'=(kRow d'.toList).toArray:=by
  have:=QdU d'.toList;simp only [YJ] at this;rw [<- this]
 rw [g];have:=Qe2 z (kRow d'.toList) (by rw [Qbr];simp [j];omega);rw [Qbr] at this;simpa [j] using this
theorem Qds {ts:List Dt}(h:ts.Nodup)(hs:SortedIn (ltOf QbC) 0 ts.length ts.toArray):ts.Pairwise (fun x y=>QbC x y<0):=by
 have:=QaR.dot.rises (d:=ts.toArray) (oU hs) (oU h);simpa using this
theorem QcH (g:Nat)(lb:Array Value)(eg:∀args w,(callFunc g args).run prog w=.ok (.enter g args) w)(N:Nat)(f:Dt ->Option ByteArray)(w:Ur)(hN:N<=1048576)(hseq:SeqGives Fence.wide 4 prog g lb dtV (Qc8 f) N w):
  Cl 148 #[.func (.func g) #[] lb,.func (.func 150) #[] #[]] w fun e w'=>∃(v:Value) (j:List Dt),e=Ui v/\ j.Pairwise (fun x y=>QbC x y<0)/\ (∀x,x∈j↔f x≠Up)/\ j.length<=1048576/\ w'.ownsRow w.heap.size 83 2 v j.length (kRow j)/\ Bl w w':=by
 have o:=hid (Qfm g lb eg _ N oL oM w (SeqGives.bounded hseq));go_enter func148,ntmps148;go_wp2_with fail;refine o.mono ?_;rintro e w1 ⟨v,b,rfl,⟨h,B⟩,q,H,t⟩;rcases q.2 with ⟨rfl,J⟩|⟨Z,cap,L,rfl,G,X,C,D,F,P⟩
 ·have I:b=[]:=Yw J;subst I;have r:=hid t;have u:=hid h;have U:=hid q;have i:=AnyF.slices_SortFunc_none Tryz.sortD Up 0 (.func (.func 150) #[] #[]) w1;change Cl 173 _ _ _ at i;have m:=hid i;clear t h q o i;go_wp2_with fail;refine m.mono ?_;rintro e K ⟨rfl,rfl⟩;clear m;go_wp2_with fail;go_ret;exact⟨_,[],rfl,List.Pairwise.nil,fun x=>u.2 x,oP,U,r⟩
 ·have m:=hid (Qew w.heap.size Z cap b w1 q oM);have r:=hid t;have u:=hid h;have O:Hid (b.length<=1048576):=hid oM;have Y:=hid G;clear t h q o H;go_wp2_with fail;refine m.mono ?_;rintro e K ⟨rfl,j,A,E,s,p⟩;have Q:=hid s;have M:=hid (r.grown p r.size (fun k e=>by injection e with e;have:=Y.out;omega));have z:=hid A;have V:=hid E;clear s p A E m;go_wp2_with fail;go_ret;refine⟨_,j,rfl,Qds (z.nodup_iff.2 u.1) V,fun x=>by rw [z.mem_iff];exact u.2 x,by rw [z.length_eq];exact O,?_,M⟩;rw [z.length_eq];exact Q
theorem Qf3 (n l Bm:Nat)(J:List Dt ->Ur ->Prop)(W:Ur)(hJ:AbidesFrom W.heap.size J)(hm:W.cell? (Ub Bm)=Uq (.map Up))(h0:J [] W):
  CallsIn Fence.wide n prog 174 #[.func (.yield l) #[] #[],Uk (Uc Bm)] W fun e W'=>(∃v,e=Ui v)/\∃ss:List Dt,Qc8 (fun _=>(Up:Option ByteArray)) ss/\ J ss W':=by
 have k:=run_range_nilMap (P:=prog) W 122 83 169 underlying122;have j:∀ty,(Instr.next (Uk (Uc W.heap.size)) false ty).run prog (W.alloc (.mapIter Up 0 #[] 0))=_:=fun ty=>run_next_nilMap _ ty 0 0 #[];refine callsIn_of_wp func174 rfl trivial ?_ rfl;simp only [ntmps174,Yq,Vq,Yr,YB,YC,YE,YF,Ys,Yt,VX,Ya];gi_wp2
 refine wpIn_loop_rounds 1 ?_;rw [roundsIn_succ];gi_wp2
 go_end0;exact⟨⟨_,rfl⟩,[],⟨Ye,fun x=>oP⟩,hJ [] W _ Up h0 (VG W _ Up) (fun r e=>by cases e)⟩
theorem Qha (mb:Option Nat)(w:Ur):Cl 149 #[.map mb] w fun e w'=>e=Ui (.func (.func 174) #[] #[Uk (Uc w.heap.size)])/\ w'=w.alloc (Uj #[.map mb] 122):=by
 go_enter func149,ntmps149;go_wp2_with fail;go_ret;exact⟨rfl,rfl⟩
theorem sortedDotsC (B c:Nat)(N:List Ky ->Option (Nat×Nat))(M:List Ky ->Dt ->Option ByteArray)(p:List Ky)(w:Ur)(hT:Tre w B N M c)(hc:c<=1048576):
  Cl 127 #[Uo #[.map (mF (N p)),.map (mS (N p))]] w fun e w'=>∃(v:Value) (j:List Dt),e=Ui v/\ j.Pairwise (fun x y=>QbC x y<0)/\ (∀x,x∈j↔M p x≠Up)/\ j.length<=1048576/\ w'.ownsRow w.heap.size 83 2 v j.length (kRow j)/\ Bl w w':=by
 obtain⟨K,I⟩:=zE (mF (N p));obtain⟨m,h⟩:=zE (mS (N p));rw [I,h];have A:Hid (∀w1,Bl w w1 ->∀Bm,Bm<w1.heap.size ->w1.cell? (Ub Bm)=Uq (.map m) ->∃n,n<=1048576/\ SeqGives Fence.wide 4 prog 174 #[Uk (Uc Bm)] dtV (Qc8 (M p)) n w1):=hid (fun w1 z Bm hBm k=>by
  cases e:N p with
  | some x=>
   obtain⟨D,U⟩:=(hT.bw z).marks p x e;have:m=Uq x.2:=(by rw [<- h,e];rfl);rw [this] at k;exact⟨Maps.size D,Uw U.own.size_le hc,Qdr Bm x.2 c _ D w1 hBm k U⟩
  | none=>
   have:m=Up:=(by rw [<- h,e];rfl);rw [this] at k;refine⟨0,oM,fun l J W q hJ hY h0=> ?_⟩;have P:M p=fun _=>Up:=funext fun y=>by rw [hT.none' _ e]
   rw [P];exact Qf3 4 l Bm J W hJ ((q.cell (p:=(Ub Bm)) hBm).trans k) h0)
 obtain⟨W,q⟩:=zE (w.alloc (Uj #[.map K,.map m] 124));have Q:Bl w W:=q▸zO _ _;have O:Bx2 W w.heap.size (.map K) (.map m):=q▸Bx2.made _ _ _ _;have T:=O.c1;have s:=hid Q;clear hT Q O I h;go_enter func127,ntmps127;go_wp2_with fail;try rw [q]
 clear q;refine(Qha m W).mono ?_;rintro e w1 ⟨rfl,t⟩;have z:Bl W w1:=by rw [t];exact zO _ _
 have i:w1.cell? (Ub W.heap.size)=Uq (.map m):=by rw [t];simp
 have L:W.heap.size<w1.heap.size:=by rw [t];simp
 have u:=hid (s.trans (z.mono s.size));obtain⟨n,S,H⟩:=A w1 u W.heap.size L i;have E:=hid (QcH _ _ (enters_of func174 oK rfl) n (M p) w1 S H);clear H t z i L T A;go_wp2_with fail;refine E.mono ?_;rintro e w2 ⟨v,j,rfl,G,k,Y,Z,V⟩;have o:=hid (And.intro G (And.intro k Y));have X:=hid (u.trans (V.mono u.size));have C:Hid (w2.ownsRow w.heap.size 83 2 v j.length (kRow j)):=hid (by
  obtain⟨q1,b⟩:=Z;refine⟨q1,?_⟩;rcases b with b|⟨g,cap,F,e,R,r⟩
  ·exact .inl b
  ·exact .inr ⟨g,cap,F,e,Uw u.size R,r⟩)
 clear G k Y Z V E;go_wp2_with fail;go_ret;exact⟨v,j,rfl,o.1,o.2.1,o.2.2,C,X⟩
end Go.Proofs.YtmlmkaiibamabaaGreatDoor.Ds
namespace Go.Proofs.YtmlmkaiibamabaaGreatDoor
open Go.ChangeShapes Go.WideShapes Go.ChangeAt Go.RowKit Go.Proofs.Tryz
open Go.Value renaming int → Ug, pointer → Uk, string → Um, bool → Un, agg → Uo, slice → Uf, tuple → Ul
open Go.IntKind renaming i64 → Uh
open Go.Ending renaming returned → Ui
open Go.Obj renaming cells → Uj
open Option renaming none → Up, some → Uq
open Go renaming World → Ur, Addr → Us
open List renaming size_toArray → Yq, length_cons → Vq, length_nil → Yr, push_toArray → Ys, append_toArray → Yt, nil_append → VX, cons_append → Ya, flatMap_cons → Vs, length_append → UB, ext_getElem? → Yu, getElem?_eq_none → UX, getElem?_take_of_lt → Vu, getElem?_take_eq_none → Yv, eq_nil_of_length_eq_zero → Yw, nodup_nil → Ye, append_assoc → Vg, getElem?_map → Yj, mem_of_getElem? → Yx, take_add_one → Vl, map_cons → UD, sum_cons → Vz, length_take → Vo, take_length → Vn, take_append_drop → Yy, flatMap_append → VU, length_filter_le → Yz, dropLast_concat_getLast → YA, append_nil → VW
open Nat renaming reduceAdd → YB, reduceSub → YC, le_refl → Uv, le_trans → Uw, zero_add → VS, zero_le → Ux, le_of_lt → YD, lt_of_lt_of_le → Ut, add_assoc → UQ, mul_le_mul_right → UR
open _root_.Array renaming replicate_succ → YE, replicate_zero → YF, getElem?_toList → YG, getElem?_eq_getElem → YH, getElem?_modify → YI, toArray_toList → YJ
open Go.World renaming grownBy_alloc → VG, putObj_heap_other → YK, putObj_heap_same → YL, cell?_of_block → US, alloc_heap_new → YM, size_alloc → YN, frozen? → VQ, cell? → YO, ownsRow_nil → VE, setCell → UL, cell?_setCell_far → UJ
open Option renaming map_eq_some_iff → Ym, isSome → YP
variable {B b bd bm bm' c cap d g hi lo lo' m n:Nat}{F R T:Nat ->Int}{J l:List Lf}{a x:Option Us}{cur:Array Value}{e t:TypeId}{fr x0 y0 z0:Nat×Nat}{mo:Option Nat}{p:List ByteArray}{ts:List Ky}{ul:List Rn}{v v0 v1 v2:Value}{w w' w1:Ur}{y:Ky}
theorem QdK (B:Nat)(bv:Value)(zs0:List Int)(s:ByteArray)(w:Ur)(hs:s.size<=1048576)(hB:B<=w.heap.size)(hl:zs0.length<=1000000000)(ho:Own w B bv zs0):
  Cl 102 #[bv,Um s] w fun e w'=>∃v,e=Ui v/\ Own w' B v (zs0++Qae s)/\ Gr w w' bv v/\ w.heap.size<w'.heap.size:=by
 have p:=Qah 9 s.size;go_enter func102,ntmps102;go_wp2_with fail;refine(QaU B s.size bv zs0 w oM hB oM ho).mono ?_;rintro e w1 ⟨o,rfl,q,k,i⟩;obtain⟨u,y,m,r,j⟩:=Qpt B o _ s w1 q oM (by rw [UB];omega) hs;have R:Own y B u (zs0++Qae s):=by unfold Qae;rw [<- Vg];exact r
 have h:=hid R;have z:=hid (k.trans j);have b:=j.g.size;have t:Hid (w.heap.size<y.heap.size):=hid oM;clear q r k j R i b ho;go_wp2_with (at_builtin;refine Qab rfl _ _ _ _ rfl m (by rfl) (by rfl) rfl ?_;clear m);go_ret;exact⟨u,rfl,h,z,t⟩
theorem QnW{ts:List Dt}(h:w.ownsRow B 83 2 (Uf (Uc g) m cap) m (Ds.kRow ts))(hl:ts.length=m):∀i,i<m ->∃d,ts[i]? =Uq d/\ w.cell? (Ua g (i*2))=Uq (Ud d.1)/\ w.cell? (Ua g (i*2+1))=Uq (Ud d.2):=by
 rcases h.2 with ⟨y,_⟩|⟨o,t,k,z,A,u,b,p,s,r⟩
 ·cases y
 ·cases z;intro i hi;have v:i<ts.length:=oM;have q:ts.toArray[i]! =ts[i]:=by rw [getElem!_pos _ _ (oU v)];simp
  refine⟨ts[i],by simp [v],?_,?_⟩
  ·have j:(k.toList.take (m*2))[i*2]? =(Ds.kRow ts)[i*2]? :=(by rw [r]);rw [Vu oM,Ds.kRow_get ts (i*2) oM] at j;rw [show i*2/2=i by omega,show i*2%2=0 by omega,q] at j;simp [YO,u,<- YG,j,Ds.kCells]
  ·have j:(k.toList.take (m*2))[i*2+1]? =(Ds.kRow ts)[i*2+1]? :=(by rw [r]);rw [Vu oM,Ds.kRow_get ts (i*2+1) oM] at j;rw [show (i*2+1)/2=i by omega,show (i*2+1)%2=1 by omega,q] at j;simp [YO,u,<- YG,j,Ds.kCells]
theorem QqD{ts:List Dt}(h:w.ownsRow B 83 2 v ts.length (Ds.kRow ts)):∃a cap,v=Uf a ts.length cap/\ ts.length<=cap/\ cap<=9223372036854775807/\ (0<ts.length ->∃g,a=Uq (Ub g)/\ B<=g/\ g<w.heap.size/\∀i,i<ts.length ->∃d,ts[i]? =Uq d/\ w.cell? (Ua g (i*2))=Uq (Ud d.1)/\ w.cell? (Ua g (i*2+1))=Uq (Ud d.2)):=by
 rcases h.2 with ⟨rfl,j⟩|⟨g,cap,u,rfl,r,q,k,m,y,z⟩
 ·exact⟨Up,0,by rw [j],oM,oM,fun hh=>oM⟩
 ·exact⟨_,cap,rfl,k,by unfold maxLen at m;omega,fun _=>⟨g,rfl,r,(Array.getElem?_eq_some_iff.1 q).1,QnW h rfl⟩⟩
theorem Qgb(l:List Lf)(p:List ByteArray)(y:Ky)(w0:Ur)(Bt c:Nat)(N:List Ky ->Option (Nat×Nat))(hT:Tre w0 Bt N (Mk l l.length) c)(hc:c<=1048576)(hlv:QbT R F T n l l.length)(hbd:LvB l)(hy:y.2=1 \/y.2=2)(bv:Value)(zs0:List Int)(w:Ur)(hb:Bl w0 w)(ho:Own w w0.heap.size bv zs0)(hl:zs0.length<=100000000):
  Cl 103 #[Uo #[.map (mF (N (Qac p 3++[y]))),.map (mS (N (Qac p 3++[y])))],bv,Ud y.2] w fun e w'=>∃v,e=Ui v/\ Own w' w0.heap.size v (zs0++mB (dsK l p y l.length) y.2)/\ Gr w w' bv v:=by
 have Hq:y.2≠3:=oM;obtain⟨ls,O⟩:=zE (dsK l p y l.length);obtain⟨Y,hY⟩:=zE y.2;rw [O,hY];rw [hY] at hy;clear hY;obtain⟨W,A⟩:=zE (w.alloc (Uj #[.map (mF (N (Qac p 3++[y]))),.map (mS (N (Qac p 3++[y])))] 124));have I:Bl w W:=A▸zO _ _;have H:Bx2 W w.heap.size (.map (mF (N (Qac p 3++[y])))) (.map (mS (N (Qac p 3++[y])))):=A▸Bx2.made _ _ _ _;have zW:W.heap.size=w.heap.size+1:=A▸oP;have Hl:Bl w0 W:=hb.trans (I.mono hb.size);have Hg:=hid (Ds.sortedDotsC Bt c N (Mk l l.length) (Qac p 3++[y]) W (hT.bw Hl) hc);obtain⟨m0,Ho⟩:=zE (mF (N (Qac p 3++[y])));obtain⟨m1,X⟩:=zE (mS (N (Qac p 3++[y])));rw [Ho,X] at H Hg A;rw [Ho,X];obtain⟨k0,k1⟩:=H.q2;have HX:=hid H;have Gh:=hid I;have C:=hid Hl;have HO:=hid (Own.kept ho I (fun k M=>(World.ownsRow.lt ho k M).2));have HT:=hid hT;have Go:=hid X;have G:Hid (∀g,bv.ownBlock=Uq g ->w0.heap.size<=g/\ g<w.heap.size):=hid (fun g hg=>World.ownsRow.lt ho g hg);clear H I Hl ho hT Ho X;go_enter func103,ntmps103;go_wp2_with fail;try rw [A]
 clear A;refine Hg.mono ?_;rintro e w1 ⟨vd,ts,rfl,Hd,He,Gu,Gb,o⟩;have L:=Qgi hlv Hq Hd He;have P:Hid (∀x∈ls,(0<=x.r/\ x.r<8)/\ (0<=x.q/\ x.q<=1000000000)/\ x.v.size<=200):=hid (fun x hx=>by
  rw [<- O] at hx;obtain⟨j,hj,_,rfl⟩:=Qbd.1 hx;exact⟨hbd.rep j hj,hbd.seq j hj,hbd.val j hj⟩)
 have Gl:Hid (∀x∈ls,∀w',Bl w0 w' ->(Instr.lookup 122 (.map m1) (Uo #[Ud x.r,Ud x.q]) false).run prog w'=.ok (Uo #[Um x.v]) w'):=hid (fun x hx w' hb'=>by
  have hv:=Qgu Hq hbd.dis (by rw [O];exact hx);have T':=HT.bw hb';have hl:=P x hx;cases e:N (Qac p 3++[y]) with
  | none=>rw [T'.none' _ e] at hv;cases hv
  | some x1=>
   have hu:m1=Uq x1.2:=(by rw [<- Go.out,e];rfl);obtain⟨kl,Gs⟩:=QdP (r:=x.r) (q:=x.q) (wfI oM oM) (wfI oM oM);have:=(T'.marks _ x1 e).look Qau underlying122 (QfS w') (x:=(x.r,x.q)) Gs;rw [hv] at this;rw [hu];exact this)
 have Gt:ls.length<=1000:=by rw [<- O];have:=QgO l p y l.length;have:=hbd.len;omega
 rw [O] at L;have Gc:ts.length=ls.length:=by rw [L];simp
 obtain⟨da,dc,rfl,Hm,Gq,H7⟩:=QqD Gb;have HD:Hid (0<ls.length ->∃g,da=Uq (Ub g)/\ W.heap.size<=g/\ g<w1.heap.size/\∀i,i<ls.length ->∃x∈ls,ls[i]? =Uq x/\ w1.cell? (Ua g (i*2))=Uq (Ud x.r)/\ w1.cell? (Ua g (i*2+1))=Uq (Ud x.q)):=hid (fun h0=>by
  obtain⟨g,e1,e2,e3,e4⟩:=H7 oM;refine⟨g,e1,e2,e3,fun i hi=> ?_⟩;obtain⟨d,f1,f2,f3⟩:=e4 i oM;rw [L] at f1;simp only [Yj,Ym] at f1;obtain⟨x,f4,f5⟩:=f1;subst f5;exact⟨x,Yx f4,f4,f2,f3⟩)
 rw [Gc] at Hm ⊢;have X1:=HX.bw o HX.lt;have Hz:=hid X1;have Gm:=hid (Own.kept HO o (fun k M=>oH ((G k M).2)));have Hr:=hid (C.trans (o.mono C.size));have Hf:=hid (Qaa Gh o);have x0:IntKind.u64.wrap ((ls.length:Nat):Int)=(ls.length:Int):=Qe8 _ oM oM;have Gx:=o.size;have Q:Hid (w0.heap.size<=w1.heap.size/\ w.heap.size<w1.heap.size/\ w0.heap.size<=w.heap.size):=hid ⟨Hr.size,oM,hb.size⟩;clear k0 k1 Gb Hd He Gu H7 L Gc o Hg X1 HX HO C Gx O Hq;go_wp2_with fail;refine(QaU w0.heap.size ls.length bv zs0 w1 oM Q.1 oM Gm).mono ?_;rintro e w2 ⟨v2,rfl,o2,g2,z2⟩;have Hv:=hid o2;have Hs:=hid g2;have H0:=hid z2;clear o2 g2 z2 x0;go_wp2_with fail;go_loopw [1,19] (fun b' i wr=>∃(k:Nat),k<=ls.length/\ i=Ud k/\ Hid (Own wr w0.heap.size b' (zs0++(uvF 9 ls.length++(ls.take k).flatMap (lfB Y))))/\ Hid (Gr w1 wr bv b')/\ Hid (w1.heap.size<=wr.heap.size)) (fun _ i _=>ls.length - (intOf i).toNat);case atStart=>exact⟨0,Ux _,rfl,hid (oU Hv),Hs,hid (YD H0)⟩
 case round=>
  clear Hv Hs H0;obtain⟨k,M,rfl,Z,u,H2⟩:=hrel;by_cases Hn:k<ls.length
  ·obtain⟨g,rfl,Gy,Gz,H9⟩:=HD oM;obtain⟨x,Hp,Gd,H5,H6⟩:=H9 k Hn;have Hc:Uq g≠bv.ownBlock:=fun e=>oH ((G g e.symm).2);have Ha:Uq w.heap.size≠bv.ownBlock:=fun e=>by have:=(G _ e.symm).2;omega
   have s:=u.g.cell H5 Hc;have c2:=u.g.cell H6 Hc;have n1:=u.g.cell Hz.c1 Ha;have Gv:=P x Hp;have Hh:Hid ((ls.take (k+1)).flatMap (lfB Y)=(ls.take k).flatMap (lfB Y)++lfB Y x):=hid (by rw [Vl,Gd];simp);have Hj:Hid ((zs0++(uvF 9 ls.length++(ls.take k).flatMap (lfB Y))).length<=100000000+10+230000):=hid (by
    have h1:=(Qah 9 ls.length).1;have h2:=Qct (lfB Y) (fun _=>1) 230 (ls.take k) (fun z hz=>by
     have a1:=(Qah 9 z.r.toNat).1;have a2:=(Qah 9 z.q.toNat).1;have a3:=QaG z.v;have a4:=(P z (List.mem_of_mem_take hz)).2.2;unfold lfB;simp only [UB];split
     ·omega
     ·simp;omega)
    have h3:∀ls:List Lf,(ls.map fun _=>1).sum=ls.length:=fun ls=>by
     induction ls with
     | nil=>rfl
     | cons a r ih=>simp only [UD,Vz,ih,Vq];omega
    rw [h3,Vo] at h2;simp only [UB];omega)
   have D:Hid (∀w',Bl w0 w' ->(Instr.lookup 122 (.map m1) (Uo #[Ud x.r,Ud x.q]) false).run prog w'=.ok (Uo #[Um x.v]) w'):=hid (fun w' h=>Gl.out x Hp w' h);obtain⟨xp,xf,xr,xq,U⟩:=x;dsimp only at s c2 Gv D Hh;obtain⟨r,rfl⟩:∃r:Nat,xr=(r:Int):=⟨xr.toNat,oM⟩;obtain⟨q,rfl⟩:∃q:Nat,xq=(q:Int):=⟨xq.toNat,oM⟩;have Hy:Hid (lfB Y ⟨xp,xf,(r:Int),(q:Int),U⟩=uvF 9 r++(uvF 9 q++if Y=1 then Qae U else [])):=hid (by simp [lfB]);have x3:IntKind.u64.wrap (r:Int)=(r:Int):=Qe8 _ oM oM;have x4:IntKind.u64.wrap (q:Int)=(q:Int):=Qe8 _ oM oM;obtain⟨t,E⟩:=zE (wr.alloc (Uj #[Ud (r:Int),Ud (q:Int)] 83));have B:Bx2 t wr.heap.size (Ud (r:Int)) (Ud (q:Int)):=E▸Bx2.made _ _ _ _;have H3:Bl wr t:=E▸zO _ _;have Gk:Hid (Gr w1 t bv u1):=E▸hid (u.alloc _);have Gn:Hid (Own t w0.heap.size u1 (zs0++(uvF 9 ls.length++(ls.take k).flatMap (lfB Y)))):=E▸hid (World.ownsRow.alloc Z _);have Hb:Hid (Uq wr.heap.size≠u1.ownBlock):=hid (fun e=>by have:=(World.ownsRow.lt Z _ e.symm).2;omega);obtain⟨q0,q1⟩:=B.q2;have V:=hid B;have Gi:=hid Ha;have Hk:Hid (w1.heap.size<=t.heap.size):=hid (oJ H3.size H2);clear B H3 H5 H6 H9 Hp Gd Ha Hc Z u H2;go_wp2_with fail;try rw [E]
   clear E;refine(QaU w0.heap.size r u1 _ t oM (oJ Q.1 Hk) (oH Hj) Gn).mono ?_;rintro e w3 ⟨v3,rfl,o3,g3,z3⟩;have Gw:=g3.g.cell V.c1 Hb;have Hw:=hid o3;have Ht:=hid g3;have H1:=hid z3;have l3:=(Qah 9 r).1;clear o3 g3 z3 q0 q1 s c2 n1 x3;go_wp2_with fail;refine(QaU w0.heap.size q v3 _ w3 oM (by have:=Q.1;have:=Hk.out;have:=H1.out;omega) (by have:=Hj.out;rw [UB];omega) Hw).mono ?_;rintro e m ⟨v5,rfl,o5,g5,z5⟩;have K:=Ht.trans g5;have Gf:=K.g.cell V.c0 Hb;have Gg:=K.g.cell V.c1 Hb;have J:=Gk.trans K;have Ge:=J.g.cell Hz.c1 Gi;have H4:Bl w0 m:=Hr.trans (J.bw Q.1 (fun k M=>(G k M).1));have Ga:=D m H4;have H8:(Instr.field 169 (Uo #[Um U]) 0).run prog m=.ok (Um U) m:=oK;have Hx:=hid o5;have Hu:=hid J;have Hi:Hid (w1.heap.size<=m.heap.size):=hid (oJ Hk H1);have l5:=(Qah 9 q).1;clear o5 g5 z5 Gw K J x4 H4 D Ht Hw V;rcases hy with rfl|rfl
   ·go_wp2_with fail;refine(QdK w0.heap.size v5 _ U m oM (oJ Q.1 Hi) (by have:=Hj.out;simp only [UB] at*;omega) Hx).mono ?_;rintro e w6 ⟨v6,rfl,o6,g6,z6⟩;have S:Hid (Own w6 w0.heap.size v6 (zs0++(uvF 9 ls.length++(ls.take (k+1)).flatMap (lfB 1)))):=hid (by rw [Hh.out,Hy.out];simpa using o6);have Gj:=hid (Hu.trans g6);have Gp:Hid (w1.heap.size<=w6.heap.size):=hid (oH Hi);clear o6 g6 z6 Ga H8 Gf Gg Ge;go_wp2_with fail;go_roundw;case rel=>exact⟨k+1,Hn,oN,S,Gj,Gp⟩
    case measure=>exact oE
   ·have S:Hid (Own m w0.heap.size v5 (zs0++(uvF 9 ls.length++(ls.take (k+1)).flatMap (lfB 2)))):=hid (by rw [Hh.out,Hy.out];simpa using Hx.out);clear Ga H8 Gf Gg Ge;go_wp2_with fail;go_roundw;case rel=>exact⟨k+1,Hn,oN,S,Hu,Hi⟩
    case measure=>exact oE
  ·obtain rfl:k=ls.length:=oM;have HF:Hid (zs0++(uvF 9 ls.length++(ls.take ls.length).flatMap (lfB Y))=zs0++mB ls Y):=hid (by rw [Vn];rfl);go_wp2_with fail;go_ret;refine⟨_,rfl,by rw [<- HF.out];exact Z,?_⟩;exact(Gr.of_below (b:=bv) Hf).trans u
theorem QoF(h:w.ownsRow B 174 2 (Uf (Uc g) m cap) m (kRow ts))(hl:ts.length=m):∀i,i<m ->∃d,ts[i]? =Uq d/\ w.cell? (Ua g (i*2))=Uq (Um d.1)/\ w.cell? (Ua g (i*2+1))=Uq (Ud d.2):=by
 rcases h.2 with ⟨y,_⟩|⟨o,t,k,z,A,u,b,p,s,r⟩
 ·cases y
 ·cases z;intro i hi;have v:i<ts.length:=oM;have q:ts.toArray[i]! =ts[i]:=by rw [getElem!_pos _ _ (oU v)];simp
  refine⟨ts[i],by simp [v],?_,?_⟩
  ·have j:(k.toList.take (m*2))[i*2]? =(kRow ts)[i*2]? :=(by rw [r]);rw [Vu oM,kRow_get ts (i*2) oM] at j;rw [show i*2/2=i by omega,show i*2%2=0 by omega,q] at j;simp [YO,u,<- YG,j,kCells]
  ·have j:(k.toList.take (m*2))[i*2+1]? =(kRow ts)[i*2+1]? :=(by rw [r]);rw [Vu oM,kRow_get ts (i*2+1) oM] at j;rw [show (i*2+1)/2=i by omega,show (i*2+1)%2=1 by omega,q] at j;simp [YO,u,<- YG,j,kCells]
theorem QqI(h:w.ownsRow B 174 2 v ts.length (kRow ts)):∃a cap,v=Uf a ts.length cap/\ ts.length<=cap/\ cap<=9223372036854775807/\ (0<ts.length ->∃g,a=Uq (Ub g)/\ B<=g/\ g<w.heap.size/\∀i,i<ts.length ->∃d,ts[i]? =Uq d/\ w.cell? (Ua g (i*2))=Uq (Um d.1)/\ w.cell? (Ua g (i*2+1))=Uq (Ud d.2)):=by
 rcases h.2 with ⟨rfl,j⟩|⟨g,cap,u,rfl,r,q,k,m,y,z⟩
 ·exact⟨Up,0,by rw [j],oM,oM,fun hh=>oM⟩
 ·exact⟨_,cap,rfl,k,by unfold maxLen at m;omega,fun _=>⟨g,rfl,r,(Array.getElem?_eq_some_iff.1 q).1,QoF h rfl⟩⟩
theorem Qnr{x:Lf}(hx:Qcz x)(h:nx p x=Uq y):(y.2=1 \/y.2=2) \/(y.2=3/\ p.length+2<=8):=by
 rw [Qb2] at h;obtain⟨⟨_,q⟩,e⟩:=h;have j:=congrArg Prod.snd e;unfold Qav at j;dsimp only at j;by_cases m:p.length+1<x.p.length
 ·rw [if_pos m] at j;have:=hx.1.2.1;exact .inr ⟨j.symm,oM⟩
 ·rw [if_neg m] at j;rcases QgZ x.fl with k|k<;>rw [k] at j
  ·exact .inl (.inl j.symm)
  ·exact .inl (.inr j.symm)
theorem Qfv {α:Type}(f:α ->List Int)(ts:List α)(k:Nat):((ts.take k).flatMap f).length<=(ts.flatMap f).length:=by
 conv=>rhs;rw [<- Yy k ts,VU,UB]
 omega
theorem Qgc {R F T:Nat ->Int}{n:Nat}(l:List Lf)(w0:Ur)(Bt c:Nat)(N:List Ky ->Option (Nat×Nat))(hT:Tre w0 Bt N (Mk l l.length) c)(hN:NkI l l.length N)(hc:c<=1048576)(hlv:QbT R F T n l l.length)(hbd:LvB l):∀(f:Nat) (p:List ByteArray),p.length+f=8 ->1<=f ->∀(bv:Value) (zs0:List Int) (w:Ur),Bl w0 w ->Own w w0.heap.size bv zs0 ->zs0.length+(tB l f p).length<=90000000 ->
  Cl 71 #[Uo #[.map (mF (N (Qac p 3))),.map (mS (N (Qac p 3)))],bv] w fun e w'=>∃v,e=Ui v/\ Own w' w0.heap.size v (zs0++tB l f p)/\ Gr w w' bv v
 | 0,_,_,q,_,_,_,_,_,_=>oM
 | f+1,p,hpf,_,bv,zs0,w,hb,ho,hl=>by
  obtain⟨k1,k2⟩:=Qeh p hlv l.length zL;obtain⟨TB,Gf⟩:=zE (tB l (f+1) p);rw [Gf] at hl ⊢;have G7:Hid (∀s,p.length+2<=8 ->∀(bv:Value) (zs0:List Int) (w:Ur),Bl w0 w ->Own w w0.heap.size bv zs0 ->zs0.length+(tB l f (p++[s])).length<=90000000 ->Cl 71 #[Uo #[.map (mF (N (Qac p 3++[(s,3)]))),.map (mS (N (Qac p 3++[(s,3)])))],bv] w fun e w'=>∃v,e=Ui v/\ Own w' w0.heap.size v (zs0++tB l f (p++[s]))/\ Gr w w' bv v):=hid (fun s G3 bv zs0 w q A h3=>by
   rw [<- QfQ];exact Qgc l w0 Bt c N hT hN hc hlv hbd f (p++[s]) oS oM bv zs0 w q A h3)
  obtain⟨W,hW⟩:=zE (w.alloc (Uj #[.map (mF (N (Qac p 3))),.map (mS (N (Qac p 3)))] 124));have b0:Bl w W:=hW▸zO _ _;have X0:Bx2 W w.heap.size (.map (mF (N (Qac p 3)))) (.map (mS (N (Qac p 3)))):=hW▸Bx2.made _ _ _ _;have zW:W.heap.size=w.heap.size+1:=hW▸oP;have Gg:Bl w0 W:=hb.trans (b0.mono hb.size);have Ge:=hid (QcI Bt c N (Mk l l.length) (Qac p 3) W (hT.bw Gg) hc);obtain⟨m0,H9⟩:=zE (mF (N (Qac p 3)));obtain⟨m1,Gh⟩:=zE (mS (N (Qac p 3)));rw [H9,Gh] at X0 Ge hW;rw [H9,Gh];obtain⟨q0,q1⟩:=X0.q2;have HX:=hid X0;have G6:=hid b0;have Gb:=hid Gg;have HO:=hid (Own.kept ho b0 (fun k E=>(World.ownsRow.lt ho k E).2));have HT:=hid hT;have G9:=hid H9;have Hb:Hid (∀g,bv.ownBlock=Uq g ->w0.heap.size<=g/\ g<w.heap.size):=hid (fun g hg=>World.ownsRow.lt ho g hg);have Gq:=hid Gf;have Gm:=hid k2;clear X0 b0 Gg ho H9 Gh Gf k1 k2;go_enter func71,ntmps71;go_wp2_with fail;try rw [hW]
  clear hW;refine Ge.mono ?_;rintro e w1 ⟨vd,m,rfl,Hz,H0,Kf,G2,b1⟩;have H7:=Qjv (p:=p) hlv hN Hz H0;obtain⟨da,dc,rfl,Kb,Kc,Gz⟩:=QqI G2;have Ke:m.length<=1000:=by rw [H7];have:=QeP l p l.length;have:=hbd.len;omega
  have HD:Hid (0<m.length ->∃g,da=Uq (Ub g)/\ W.heap.size<=g/\ g<w1.heap.size/\∀i,i<m.length ->∃y∈m,m[i]? =Uq y/\ w1.cell? (Ua g (i*2))=Uq (Um y.1)/\ w1.cell? (Ua g (i*2+1))=Uq (Ud y.2)):=hid (fun h0=>by
   obtain⟨g,e1,M,e3,e4⟩:=Gz h0;refine⟨g,e1,M,e3,fun i hi=> ?_⟩;obtain⟨d,f1,f2,f3⟩:=e4 i hi;exact⟨d,Yx f1,f1,f2,f3⟩)
  have Gs:Hid (TB=uvF 9 m.length++m.flatMap (kB l f p)):=hid (by rw [<- Gq.out,Qg8,<- H7]);have Gn:Hid (∀y∈m,y.1.size<=40/\ ((y.2=1 \/y.2=2) \/(y.2=3/\ p.length+2<=8))):=hid (fun y hy=>by
   rw [H7] at hy;obtain⟨j,hj,e⟩:=(Gm y).1 hy;exact⟨Qen (hlv j hj).1 e,Qnr (hlv j hj).1 e⟩)
  have G8:Hid (∀y∈m,∀w',Bl w0 w' ->(Instr.lookup 121 (.map m0) (Uo #[Um y.1,Ud y.2]) false).run prog w'=.ok (Uo #[.map (mF (N (Qac p 3++[y]))),.map (mS (N (Qac p 3++[y])))]) w'):=hid (fun y hy w' hb'=>by
   have hl:=Gn y hy;obtain⟨kl,Kd⟩:=QhM (s:=y.1) (k:=y.2) oL (wfI oM oM);have:=(HT.bw hb').look (Qac p 3) y Kd;rw [G9.out] at this;exact this)
  have X1:=HX.bw b1 HX.lt;have H6:=hid X1;have Ka:=hid (Own.kept HO b1 (fun k E=>oH ((Hb k E).2)));have H2:=hid (Gb.trans (b1.mono Gb.size));have Ga:=hid (Qaa G6 b1);have x0:IntKind.u64.wrap ((m.length:Nat):Int)=(m.length:Int):=Qe8 _ oM oM;have Kg:=b1.size;have H:Hid (w0.heap.size<=w1.heap.size/\ w.heap.size<w1.heap.size/\ w0.heap.size<=w.heap.size):=hid ⟨H2.size,oM,hb.size⟩;clear q0 q1 G2 Hz H0 Kf Gz H7 b1 Ge X1 HX HO Gb Kg Gm Gq;go_wp2_with fail;refine(QaU w0.heap.size m.length bv zs0 w1 oM H.1 oM Ka).mono ?_;rintro e w2 ⟨v2,rfl,o2,g2,z2⟩;have Go:=hid o2;have Gl:=hid g2;have Gt:=hid z2;clear o2 g2 z2 x0;go_wp2_with fail;go_loopw [1,17] (fun b' i wr=>∃(k:Nat),k<=m.length/\ i=Ud k/\ Hid (Own wr w0.heap.size b' (zs0++(uvF 9 m.length++(m.take k).flatMap (kB l f p))))/\ Hid (Gr w1 wr bv b')/\ Hid (w1.heap.size<=wr.heap.size)) (fun _ i _=>m.length - (intOf i).toNat);case atStart=>exact⟨0,Ux _,rfl,hid (oU Go),Gl,hid (YD Gt)⟩
  case round=>
   clear Go Gl Gt;obtain⟨k,E,rfl,H4,Hl,Gu⟩:=hrel;by_cases H8:k<m.length
   ·obtain⟨g,rfl,Kh,Ki,G0⟩:=HD oM;obtain⟨y,Gi,G5,Gx,Gy⟩:=G0 k H8;have Hi:Uq g≠bv.ownBlock:=fun e=>oH ((Hb g e.symm).2);have Hh:Uq w.heap.size≠bv.ownBlock:=fun e=>by have:=(Hb _ e.symm).2;omega
    have c1:=Hl.g.cell Gx Hi;have c2:=Hl.g.cell Gy Hi;have n0:=Hl.g.cell H6.c0 Hh;have G4:=Gn y Gi;have H5:Hid ((m.take (k+1)).flatMap (kB l f p)=(m.take k).flatMap (kB l f p)++kB l f p y):=hid (by rw [Vl,G5];simp);have Q:Hid ((zs0++(uvF 9 m.length++(m.take k).flatMap (kB l f p))).length+(kB l f p y).length<=90000000):=hid (by
     have q:=Qfv (kB l f p) m (k+1);rw [H5.out,UB] at q;have A:=hl;rw [Gs.out] at A;simp only [UB] at A ⊢;omega)
    have X:Hid (∀w',Bl w0 w' ->(Instr.lookup 121 (.map m0) (Uo #[Um y.1,Ud y.2]) false).run prog w'=.ok (Uo #[.map (mF (N (Qac p 3++[y]))),.map (mS (N (Qac p 3++[y])))]) w'):=hid (fun w' h=>G8.out y Gi w' h);have Hm:Hid ((y.2=1 \/y.2=2) ->∀(bv:Value) (zs0:List Int) (w:Ur),Bl w0 w ->Own w w0.heap.size bv zs0 ->zs0.length<=100000000 ->Cl 103 #[Uo #[.map (mF (N (Qac p 3++[y]))),.map (mS (N (Qac p 3++[y])))],bv,Ud y.2] w fun e w'=>∃v,e=Ui v/\ Own w' w0.heap.size v (zs0++mB (dsK l p y l.length) y.2)/\ Gr w w' bv v):=hid (fun hy bv zs0 w q A h3=>Qgb l p y w0 Bt c N HT hc hlv hbd hy bv zs0 w q A h3);obtain⟨s,Y⟩:=y;dsimp only at c1 c2 G4 X H5 Hm Q;obtain⟨B,Hq⟩:=zE (wr.alloc (Uj #[Um s,Ud Y] 174));have D1:Bx2 B wr.heap.size (Um s) (Ud Y):=Hq▸Bx2.made _ _ _ _;have Gw:Bl wr B:=Hq▸zO _ _;have Gd:Hid (Gr w1 B bv u1):=Hq▸hid (Hl.alloc _);have Gp:Hid (Own B w0.heap.size u1 (zs0++(uvF 9 m.length++(m.take k).flatMap (kB l f p)))):=Hq▸hid (World.ownsRow.alloc H4 _);have C:Hid (Uq wr.heap.size≠u1.ownBlock):=hid (fun e=>by have:=(World.ownsRow.lt H4 _ e.symm).2;omega);obtain⟨q0,q1⟩:=D1.q2;have L:=hid D1;have Hr:=hid Hh;have Gv:Hid (w1.heap.size<=B.heap.size):=hid (oJ Gw.size Gu);obtain⟨zs,Gj⟩:=zE (zs0++(uvF 9 m.length++(m.take k).flatMap (kB l f p)));have Hf:Hid (zs0++(uvF 9 m.length++(m.take (k+1)).flatMap (kB l f p))=zs++kB l f p (s,Y)):=hid (by rw [H5.out,<- Gj];simp);rw [Gj] at Gp Q;clear D1 Gw Gx Gy G0 Gi G5 Hh Hi H4 Hl Gu Gj H5;go_wp2_with fail;try rw [Hq]
    clear Hq;refine(QdK w0.heap.size u1 _ s B oM (oJ H.1 Gv) (oH Q) Gp).mono ?_;rintro e J ⟨v3,rfl,o3,g3,z3⟩;have Hn:=hid o3;have Hk:=hid g3;have Hp:Hid (w1.heap.size<=J.heap.size):=hid (oH Gv);have Gk:=g3.g.cell L.c1 C;clear o3 g3 z3 q0 q1 c1 c2 n0;rcases G4.2 with (rfl|rfl)|⟨rfl,G3⟩
    ·have V:Hid (kB l f p (s,1)=Qae s++([1]++mB (dsK l p (s,1) l.length) 1)):=hid (by unfold kB;rw [if_neg (show¬(1:Int)=3 by decide)]);obtain⟨z,r,Ha,P,Z⟩:=QcP w0.heap.size v3 _ [1] (Ub J.heap.size) 1 1 (J.alloc (Uj #[Ug .u8 1] 5)) (World.ownsRow.alloc Hn _) rfl (fun i u hu=>cell_one_new _ _ _ i u hu) (by have:=H.1;have:=Hp.out;simp;omega) (by have q:=Q.out;rw [V.out] at q;simp only [UB] at q ⊢;simp at q ⊢;omega);have o:Gr B r u1 z:=Hk.trans ((Gr.alloc (Gr.refl J v3) _).trans Z);have S:=o.g.cell L.c0 C;have Hc:=o.g.cell L.c1 C;have t:=Gd.trans o;have D:=t.g.cell H6.c0 Hr;have I:Bl w0 r:=H2.trans (t.bw H.1 (fun k E=>(Hb k E).1));have H1:w1.heap.size<=r.heap.size:=(by have q:=Hp.out;have A:=Z.g.size;simp at A;omega);have Ho:=hid P;have Hs:=hid t;have H3:=hid I;have Hu:Hid ((zs++Qae s++[1]).length+(mB (dsK l p (s,1) l.length) 1).length<=90000000):=hid (by have q:=Q.out;rw [V.out] at q;simp only [UB] at q ⊢;omega);obtain⟨a1,Hd⟩:=zE (mF (N (Qac p 3++[(s,1)])));obtain⟨a2,He⟩:=zE (mS (N (Qac p 3++[(s,1)])));have Hg:=hid (Hm (.inl rfl));rw [Hd,He] at X Hg;have Hj:Hid (Uq w.heap.size≠z.ownBlock/\ Uq wr.heap.size≠z.ownBlock):=hid ⟨by
      rcases t.l with e|⟨j,e,hj⟩
      ·rw [e];exact Hr
      ·rw [e];intro M;injection M with M;have:=H.2.1;omega,by
      rcases o.l with e|⟨j,e,hj⟩
      ·rw [e];exact C
      ·rw [e];intro M;injection M with M;have:=L.lt;omega⟩
     have Hw:Hid (∀w',Bl w0 w' ->w'.cell? (Ub w.heap.size)=Uq (.map m0) ->w'.cell? (Ub wr.heap.size)=Uq (Um s) ->w'.cell? (Ua wr.heap.size 1)=Uq (Ud 1) ->(Bl w0 w'/\ w'.cell? (Ub w.heap.size)=Uq (.map m0)/\ w'.cell? (Ub wr.heap.size)=Uq (Um s)/\ w'.cell? (Ua wr.heap.size 1)=Uq (Ud 1)/\ (Instr.lookup 121 (.map m0) (Uo #[Um s,Ud 1]) false).run prog w'=.ok (Uo #[.map a1,.map a2]) w')):=hid (fun w' q A h3 h4=>⟨q,A,h3,h4,X w' q⟩);clear P Z o t I Hm X Hd He Q Hn Hk;go_wp2_with (at_builtin;refine Qab rfl _ _ _ _ rfl Ha (by rfl) (by rfl) rfl ?_;clear Ha);refine zG Hw H3.drew D S Hc (fun qh=> ?_);refine tZ 0 40 ?_;refine tZ 1 41 ?_;refine tZ 2 42 ?_;refine tZ 3 43 ?_;refine tZ 4 44 ?_;refine tZ 5 45 ?_;refine tZ 6 46 ?_;refine cZ 7 ?_;intro K hK;go_simp;refine(Hg z _ _ qh.1 (World.ownsRow.drew Ho) (oH Hu)).mono ?_;rintro e U ⟨v6,rfl,o6,G⟩;have O:Gr r U z v6:=(show Gr r r.drew z z from⟨⟨rfl,rfl,rfl,Uv _,fun _ _ _=>rfl⟩,.inl rfl⟩).trans G;have Hy:Bl w0 U:=qh.1.trans (G.bw qh.1.size (fun k E=>(World.ownsRow.lt Ho k E).1));refine hK.out _ _ (Hw _ Hy (O.g.cell D Hj.1) (O.g.cell S Hj.2) (O.g.cell Hc Hj.2)) (fun qh=> ?_);clear hK K;try simp only [zP]
     refine tZ 8 1 ?_;refine zD ?_;have Hv:Hid (Own U w0.heap.size v6 (zs0++(uvF 9 m.length++(m.take (k+1)).flatMap (kB l f p)))):=hid (by rw [Hf.out,V.out];simpa using o6);have Ht:=hid (Hs.trans O);have Hx:Hid (w1.heap.size<=U.heap.size):=hid (oH O.g.size);clear o6 G O Hy qh S Hc D H1 Gk Hg;go_wp2_with fail;go_roundw;case rel=>exact⟨k+1,H8,oN,Hv,Ht,Hx⟩
     case measure=>exact oE
    ·have V:Hid (kB l f p (s,2)=Qae s++([2]++mB (dsK l p (s,2) l.length) 2)):=hid (by unfold kB;rw [if_neg (show¬(2:Int)=3 by decide)]);obtain⟨z,r,Ha,P,Z⟩:=QcP w0.heap.size v3 _ [2] (Ub J.heap.size) 1 1 (J.alloc (Uj #[Ug .u8 2] 5)) (World.ownsRow.alloc Hn _) rfl (fun i u hu=>cell_one_new _ _ _ i u hu) (by have:=H.1;have:=Hp.out;simp;omega) (by have q:=Q.out;rw [V.out] at q;simp only [UB] at q ⊢;simp at q ⊢;omega);have o:Gr B r u1 z:=Hk.trans ((Gr.alloc (Gr.refl J v3) _).trans Z);have S:=o.g.cell L.c0 C;have Hc:=o.g.cell L.c1 C;have t:=Gd.trans o;have D:=t.g.cell H6.c0 Hr;have I:Bl w0 r:=H2.trans (t.bw H.1 (fun k E=>(Hb k E).1));have H1:w1.heap.size<=r.heap.size:=(by have q:=Hp.out;have A:=Z.g.size;simp at A;omega);have Ho:=hid P;have Hs:=hid t;have H3:=hid I;have Hu:Hid ((zs++Qae s++[2]).length+(mB (dsK l p (s,2) l.length) 2).length<=90000000):=hid (by have q:=Q.out;rw [V.out] at q;simp only [UB] at q ⊢;omega);obtain⟨a1,Hd⟩:=zE (mF (N (Qac p 3++[(s,2)])));obtain⟨a2,He⟩:=zE (mS (N (Qac p 3++[(s,2)])));have Hg:=hid (Hm (.inr rfl));rw [Hd,He] at X Hg;have Hj:Hid (Uq w.heap.size≠z.ownBlock/\ Uq wr.heap.size≠z.ownBlock):=hid ⟨by
      rcases t.l with e|⟨j,e,hj⟩
      ·rw [e];exact Hr
      ·rw [e];intro M;injection M with M;have:=H.2.1;omega,by
      rcases o.l with e|⟨j,e,hj⟩
      ·rw [e];exact C
      ·rw [e];intro M;injection M with M;have:=L.lt;omega⟩
     have Hw:Hid (∀w',Bl w0 w' ->w'.cell? (Ub w.heap.size)=Uq (.map m0) ->w'.cell? (Ub wr.heap.size)=Uq (Um s) ->w'.cell? (Ua wr.heap.size 1)=Uq (Ud 2) ->(Bl w0 w'/\ w'.cell? (Ub w.heap.size)=Uq (.map m0)/\ w'.cell? (Ub wr.heap.size)=Uq (Um s)/\ w'.cell? (Ua wr.heap.size 1)=Uq (Ud 2)/\ (Instr.lookup 121 (.map m0) (Uo #[Um s,Ud 2]) false).run prog w'=.ok (Uo #[.map a1,.map a2]) w')):=hid (fun w' q A h3 h4=>⟨q,A,h3,h4,X w' q⟩);clear P Z o t I Hm X Hd He Q Hn Hk;go_wp2_with (at_builtin;refine Qab rfl _ _ _ _ rfl Ha (by rfl) (by rfl) rfl ?_;clear Ha);refine zG Hw H3.drew D S Hc (fun qh=> ?_);refine tZ 0 40 ?_;refine tZ 1 41 ?_;refine tZ 2 42 ?_;refine tZ 3 43 ?_;refine tZ 4 44 ?_;refine tZ 5 45 ?_;refine tZ 6 46 ?_;refine cZ 7 ?_;intro K hK;go_simp;refine(Hg z _ _ qh.1 (World.ownsRow.drew Ho) (oH Hu)).mono ?_;rintro e U ⟨v6,rfl,o6,G⟩;have O:Gr r U z v6:=(show Gr r r.drew z z from⟨⟨rfl,rfl,rfl,Uv _,fun _ _ _=>rfl⟩,.inl rfl⟩).trans G;have Hy:Bl w0 U:=qh.1.trans (G.bw qh.1.size (fun k E=>(World.ownsRow.lt Ho k E).1));refine hK.out _ _ (Hw _ Hy (O.g.cell D Hj.1) (O.g.cell S Hj.2) (O.g.cell Hc Hj.2)) (fun qh=> ?_);clear hK K;try simp only [zP]
     refine tZ 8 1 ?_;refine zD ?_;have Hv:Hid (Own U w0.heap.size v6 (zs0++(uvF 9 m.length++(m.take (k+1)).flatMap (kB l f p)))):=hid (by rw [Hf.out,V.out];simpa using o6);have Ht:=hid (Hs.trans O);have Hx:Hid (w1.heap.size<=U.heap.size):=hid (oH O.g.size);clear o6 G O Hy qh S Hc D H1 Gk Hg;go_wp2_with fail;go_roundw;case rel=>exact⟨k+1,H8,oN,Hv,Ht,Hx⟩
     case measure=>exact oE
    ·have V:Hid (kB l f p (s,3)=Qae s++([3]++tB l f (p++[s]))):=hid (by unfold kB;rw [if_pos rfl]);obtain⟨z,r,Ha,P,Z⟩:=QcP w0.heap.size v3 _ [3] (Ub J.heap.size) 1 1 (J.alloc (Uj #[Ug .u8 3] 5)) (World.ownsRow.alloc Hn _) rfl (fun i u hu=>cell_one_new _ _ _ i u hu) (by have:=H.1;have:=Hp.out;simp;omega) (by have q:=Q.out;rw [V.out] at q;simp only [UB] at q ⊢;simp at q ⊢;omega);have o:Gr B r u1 z:=Hk.trans ((Gr.alloc (Gr.refl J v3) _).trans Z);have S:=o.g.cell L.c0 C;have Hc:=o.g.cell L.c1 C;have t:=Gd.trans o;have D:=t.g.cell H6.c0 Hr;have I:Bl w0 r:=H2.trans (t.bw H.1 (fun k E=>(Hb k E).1));have H1:w1.heap.size<=r.heap.size:=(by have q:=Hp.out;have A:=Z.g.size;simp at A;omega);have Ho:=hid P;have Hs:=hid t;have H3:=hid I;have Hu:Hid ((zs++Qae s++[3]).length+(tB l f (p++[s])).length<=90000000):=hid (by have q:=Q.out;rw [V.out] at q;simp only [UB] at q ⊢;omega);have G1:=X r I;obtain⟨a1,Hd⟩:=zE (mF (N (Qac p 3++[(s,3)])));obtain⟨a2,He⟩:=zE (mS (N (Qac p 3++[(s,3)])));have Gc:=hid (G7 s G3 z _ r I P Hu);rw [Hd,He] at G1 Gc;clear P Z o t I Hm X Hd He Q Hn Hk;go_wp2_with (at_builtin;refine Qab rfl _ _ _ _ rfl Ha (by rfl) (by rfl) rfl ?_;clear Ha);refine Gc.mono ?_;rintro e U ⟨v6,rfl,o6,G⟩;have Hv:Hid (Own U w0.heap.size v6 (zs0++(uvF 9 m.length++(m.take (k+1)).flatMap (kB l f p)))):=hid (by rw [Hf.out,V.out];simpa using o6);have Ht:=hid (Hs.trans G);have Hx:Hid (w1.heap.size<=U.heap.size):=hid (oH G.g.size);clear o6 G G1 S Hc D Gc H1 Gk;go_wp2_with fail;go_roundw;case rel=>exact⟨k+1,H8,oN,Hv,Ht,Hx⟩
     case measure=>exact oE
   ·obtain rfl:k=m.length:=oM;have HF:Hid (zs0++(uvF 9 m.length++(m.take m.length).flatMap (kB l f p))=zs0++TB):=hid (by rw [Vn,Gs.out]);go_wp2_with fail;go_ret;refine⟨_,rfl,by rw [<- HF.out];exact H4,?_⟩;exact(Gr.of_below (b:=bv) Ga).trans Hl
theorem Qgq (a:Option Us)(c:Nat)(l:List Lf)(x:Option Us)(n d:Nat)(R F T:Nat ->Int)(w:Ur)(hn:l.length<=1048576)(hp:LBd l)(hi:∀i,LfI (gL l i))(hm:n<=1048576)(h:Qe9 w a l)(h':QaT w x n R F T):
  Cl 43 #[Uo #[Uf a l.length c,Uf x n d]] w fun e w'=>∃v zs k,e=Ui (Ul #[v,Ud k])/\ psZ R F T n l=(zs,k)/\ Own w' w.heap.size v zs/\ Bl w w':=by
 obtain⟨W,y⟩:=zE (w.alloc (Uj #[Uf a l.length c,Uf x n d] 28));have s:Bl w W:=y▸zO _ _;have S:Bx2 W w.heap.size (Uf a l.length c) (Uf x n d):=y▸Bx2.made _ _ _ _;obtain⟨k0,k1⟩:=S.q2;have HL:=hid (h.bw s);have HR:=hid (h'.bw s);have Hb:=hid s;clear h h' s S;by_cases j:Qba R F T n l
 ·have z:=hid (QeU a c l x n d R F T W hn hp hi hm HL HR j);have Hg:=hid (fun h=>Qes j h);have Hf:=hid (fun h=>QfD j h);have Hi:=hid (And.intro j.put_len j.tree_len);have Hd:Hid ((psB R F T n l).length<=1000000000):=hid (by have h1:=j.put_len;have h2:=j.tree_len;unfold psB;rw [UB];omega);have He:Hid (Qet (Lk R F T n)++tB l 8 []=psB R F T n l):=hid rfl;obtain⟨Z,L⟩:=zE (psB R F T n l);obtain⟨P,u⟩:=zE (psZ R F T n l);rw [L,u] at Hg Hf;rw [L] at Hd He;rw [u];clear L u;have p:=hid j;clear j;go_enter func43,ntmps43;go_wp2_with fail;try rw [y]
  clear y;refine z.mono ?_;rintro e w1 ⟨⟨x0,I,D,G,N,B,rfl,Ha,_,_,_,hT,hN,hI⟩,g⟩;obtain⟨m,M⟩:=zE (w1.alloc (Uj #[.map (Uq x0.1),.map (Uq x0.2),.map (Uq I)] 128));have A:Bl w1 m:=M▸zO _ _;have H:Bx3 m w1.heap.size (.map (Uq x0.1)) (.map (Uq x0.2)) (.map (Uq I)):=M▸Bx3.made _ _ _ _ _;obtain⟨c0,c1,c2⟩:=H.q3;have Q:=hid H;have HZ:=hid (Qaa Hb (Qaa g A));have E:=Qal.1 p.1;have HA:=hid (fun q(hb3:Bl m q)=>QiM ((Ha.bw A).bw hb3) (hid (fun r=>Uw (Qbx R F T n r) E.2)) (hid (fun r=>(QbZ n E.1 r).1)) (hid (QcM n E.1)));have Hh:Hid (∀(bv:Value) (q:Ur),Bl m q ->Own q m.heap.size bv (Qet (Lk R F T n)) ->Cl 71 #[Uo #[.map (Uq x0.1),.map (Uq x0.2)],bv] q fun e w'=>∃v,e=Ui v/\ Own w' m.heap.size v Z/\ Gr q w' bv v):=hid (fun bv q hb3 ho3=>by
   have:=Qgc l m B (9*l.length) N (hT.bw A) hI (oH p.2.1) p.2.2.1 p.lvB 8 [] rfl oM bv _ q hb3 ho3 (oH Hi);rw [show N (Qac [] 3)=Uq x0 from hN,He.out] at this;exact this)
  clear g A H hT hN hI Ha z k0 k1 E;go_wp2_with fail;try rw [M]
  clear M;have b:Hid (∀w',Bl m w' ->(Bl m w'/\ w'.cell? (Ub w1.heap.size)=Uq (.map (Uq x0.1))/\ w'.cell? (Ua w1.heap.size 1)=Uq (.map (Uq x0.2))/\ w'.cell? (Ua w1.heap.size 2)=Uq (.map (Uq I)))):=hid (fun w' hB=>by
   have X:=Q.bw hB Q.lt;exact⟨hB,X.c0,X.c1,X.c2⟩)
  clear c0 c1 c2 Q;refine zS b (fun qh=> ?_);refine tZ 0 14 ?_;refine tZ 1 15 ?_;refine tZ 2 16 ?_;refine tZ 3 17 ?_;refine cZ 4 ?_;intro K o;go_simp;refine(HA _ qh.1).mono ?_;rintro e q ⟨v3,rfl,o3,b3⟩;have t:=Qaa qh.1 b3;have U:=hid (Own.weak o3 qh.1.size);refine o.out _ _ (b _ t) (fun qh=> ?_);clear o K;try simp only [zP]
  refine cZ 5 ?_;intro K o;go_simp;refine(Hh v3 q t U).mono ?_;rintro e w4 ⟨v4,rfl,C,g4⟩;have J:Bl m w4:=t.trans (g4.bw t.size (fun k hk=>(World.ownsRow.lt U k hk).1));refine o.out _ _ (b _ J) (fun qh=> ?_);clear o K;try simp only [zP]
  refine tZ 6 6 ?_;refine zD ?_;have Hc:=hid (Qaa HZ J);have Hj:=hid (Own.weak C HZ.size);obtain⟨av,cv,rfl,_⟩:=C.any;have Hk:=Hd.out;clear g4 C U t J b3 o3 qh Hh HA b;by_cases hz:Z.length<=4000
  ·have V:=hid (Hg hz);have d1:decide ((4000:Int)<(Z.length:Int))=false:=oS;have d2:decide (4000<Z.length)=false:=oS;go_wp2_with fail;go_ret2;exact⟨_,Z,0,rfl,V,Hj,Hc⟩
  ·have V:=hid (Hf hz);have d1:decide ((4000:Int)<(Z.length:Int))=true:=oS;have d2:decide (4000<Z.length)=true:=oS;go_wp2_with fail;go_ret2;exact⟨_,[],2,rfl,V,VE _ _ _ _,Hc⟩
 ·have z:=hid (Qep a c l x n d R F T W hn hp hi hm HL HR j);have Y:=hid (QjJ j);obtain⟨P,u⟩:=zE (psZ R F T n l);rw [u] at Y;rw [u];clear u j;go_enter func43,ntmps43;go_wp2_with fail;try rw [y]
  clear y;refine z.mono ?_;rintro e w1 ⟨rfl,g⟩;have O:=hid (Qaa Hb g);clear g z k0 k1;go_wp2_with fail;go_ret2;first|exact⟨_,[],1,rfl,Y,VE _ _ _ _,O⟩|exact⟨_,[],1,rfl,Y,VE _ _ _ _,O.alloc O.size _⟩
noncomputable def sxZ (S:Sx):List Int×Int:=psZ S.R S.F S.T S.n S.l
noncomputable def Qbq (S:Sx):Bool:=decide ((sxZ S).2=0)
noncomputable def rpB (id:Int)(S S':Sx):Bool:=decide (0<=id) && (decide (id<8) && (Qbq S && Qbq S'))
theorem Qke (S:Sx):(sxZ S).1.length<=4000:=Qnv _ _ _ _ _
theorem Qcl (a x:Option Us)(c d:Nat)(S:Sx)(w:Ur)(hc:S.l.length<=c)(hcm:c<=9223372036854775807)(hm:S.Sm)(h:QbY w a S.l)(h':QaT w x S.n S.R S.F S.T):
  Cl 13 #[Uo #[Uf a S.l.length c,Uf x S.n d]] w fun e w'=>∃v zs k,e=Ui (Ul #[v,Ud k])/\ sxZ S=(zs,k)/\ Own w' w.heap.size v zs/\ Bl w w':=
 Qd5 a c S.l x S.n d S.R S.F S.T w hc hcm hm.l1 hm.p1 hm.n1 h h.seg h'
theorem Qgp (a x:Option Us)(c d:Nat)(S:Sx)(w:Ur)(hi:∀i,LfI (gL S.l i))(hm:S.Sm)(h:SAt w a x S):
  Cl 43 #[Uo #[Uf a S.l.length c,Uf x S.n d]] w fun e w'=>∃v zs k,e=Ui (Ul #[v,Ud k])/\ sxZ S=(zs,k)/\ Own w' w.heap.size v zs/\ Bl w w':=
 Qgq a c S.l x S.n d S.R S.F S.T w hm.l1 hm.p1 hi hm.n1 h.lf h.rn
theorem Qgt (a x:Option Us)(c d:Nat)(S:Sx)(w:Ur)(hc:S.l.length<=c)(hcm:c<=9223372036854775807)(hm:S.Sm)(h:QbY w a S.l)(h':QaT w x S.n S.R S.F S.T):
  Cl 20 #[Uo #[Uf a S.l.length c,Uf x S.n d]] w (Rt w (Un (Qbq S))):=by
 obtain⟨W,m⟩:=zE (w.alloc (Uj #[Uf a S.l.length c,Uf x S.n d] 28));have j:Bl w W:=m▸zO _ _;have r:Bx2 W w.heap.size (Uf a S.l.length c) (Uf x S.n d):=m▸Bx2.made _ _ _ _;obtain⟨p,s⟩:=r.q2;have u:=hid (Qcl a x c d S W hc hcm hm (h.bw j) (h'.bw j));have t:=hid j;have q:Hid (Qbq S=decide ((sxZ S).2=0)):=hid rfl;obtain⟨B,z⟩:=zE (Qbq S);rw [z] at q ⊢;clear j r h h' z;go_enter func20,ntmps20;go_wp2_with fail;try rw [m]
 clear m;refine u.mono ?_;rintro e w1 ⟨v,A,k,rfl,g,b,y⟩;have o:=hid (Qaa t y);have i:Hid (B=(k==0)):=hid (by rw [q.out,g];rfl);clear y b g u p s q;go_wp2_with fail;go_ret;exact⟨by rw [i.out];rfl,o⟩
theorem QpS (a x:Option Us)(c d:Nat)(S:Sx)(w:Ur)(hi:∀i,LfI (gL S.l i))(hm:S.Sm)(h:SAt w a x S):
  Cl 69 #[Uo #[Uf a S.l.length c,Uf x S.n d]] w (Rt w (Un (Qbq S))):=by
 obtain⟨W,j⟩:=zE (w.alloc (Uj #[Uf a S.l.length c,Uf x S.n d] 28));have q:Bl w W:=j▸zO _ _;have r:Bx2 W w.heap.size (Uf a S.l.length c) (Uf x S.n d):=j▸Bx2.made _ _ _ _;obtain⟨s,A⟩:=r.q2;have u:=hid (Qgp a x c d S W hi hm (h.bw q));have t:=hid q;have m:Hid (Qbq S=decide ((sxZ S).2=0)):=hid rfl;obtain⟨B,z⟩:=zE (Qbq S);rw [z] at m ⊢;clear q r h z;go_enter func69,ntmps69;go_wp2_with fail;try rw [j]
 clear j;refine u.mono ?_;rintro e w1 ⟨v,E,k,rfl,g,p,y⟩;have o:=hid (Qaa t y);have b:Hid (B=(k==0)):=hid (by rw [m.out,g];rfl);clear y p g u s A m;go_wp2_with fail;go_ret;exact⟨by rw [b.out];rfl,o⟩
theorem QaY (id:Int)(a x a' x':Option Us)(c d c' d':Nat)(S S':Sx)(w:Ur)(hc:S.l.length<=c)(hcm:c<=9223372036854775807)(hc':S'.l.length<=c')(hcm':c'<=9223372036854775807)(hm:S.Sm)(hm':S'.Sm)(h:QbY w a S.l)(k:QaT w x S.n S.R S.F S.T)(h':QbY w a' S'.l)(k':QaT w x' S'.n S'.R S'.F S'.T):
  Cl 5 #[Uo #[Ud id,Uf a S.l.length c,Uf x S.n d,Uf a' S'.l.length c',Uf x' S'.n d']] w (Rt w (Un (rpB id S S'))):=by
 obtain⟨W,q⟩:=zE (w.alloc (Uj #[Ud id,Uf a S.l.length c,Uf x S.n d,Uf a' S'.l.length c',Uf x' S'.n d'] 30));have m:Bl w W:=q▸zO _ _;have v:Bx5 W w.heap.size (Ud id) (Uf a S.l.length c) (Uf x S.n d) (Uf a' S'.l.length c') (Uf x' S'.n d'):=q▸Bx5.new _ _ _ _ _ _ _;have z:=hid (fun w1(hb:Bl W w1)=>Qgt a x c d S w1 hc hcm hm (h.bw (Qaa m hb)) (k.bw (Qaa m hb)));have g:=hid (fun w1(hb:Bl W w1)=>Qgt a' x' c' d' S' w1 hc' hcm' hm' (h'.bw (Qaa m hb)) (k'.bw (Qaa m hb)));have r:Hid (rpB id S S'=(decide (0<=id) && (decide (id<8) && (Qbq S && Qbq S')))):=hid rfl;obtain⟨B,s⟩:=zE (rpB id S S');obtain⟨M,A⟩:=zE (Qbq S);obtain⟨O,E⟩:=zE (Qbq S');rw [s,A,E] at r;rw [A] at z;rw [E] at g;rw [s];have y:=hid m;have o:=hid v;obtain⟨L,N,X,C,D⟩:=v.q5;clear h h' k k' m v s A E;by_cases Y:0<=id
 ·have b:decide (0<=id)=true:=oU Y;have H:decide (id<0)=false:=oS;by_cases Z:id<8
  ·have p:decide (id<8)=true:=oU Z;have I:decide (8<=id)=false:=oS;have j:Hid (B=(M && O)):=hid (by rw [r.out,b,p];simp);go_enter func5,ntmps5;go_wp2_with fail;try rw [q]
   clear q;refine(z _ zI).mono ?_;rintro e w1 ⟨rfl,u⟩;have i:=o.bw u o.lt;have J:=i.c3;have K:=i.c4;have Q:=hid (Qaa y u);have U:=hid (g w1 u);clear u i L N X C D z g o;cases M with
   | false=>
    have t:Hid (B=false):=hid (by rw [j.out];rfl);go_wp2_with fail;go_ret;exact⟨by rw [t.out];rfl,Q⟩
   | true=>
    have t:Hid (B=O):=hid (by rw [j.out];rfl);go_wp2_with fail;refine U.mono ?_;rintro e P ⟨rfl,V⟩;have G:=hid (Qaa Q V);clear V U J K;go_wp2_with fail;go_ret;exact⟨by rw [t.out];rfl,G⟩
  ·have p:decide (id<8)=false:=oU Z;have I:decide (8<=id)=true:=oS;have j:Hid (B=false):=hid (by rw [r.out,p];simp);go_enter func5,ntmps5;go_wp2_with fail;try rw [q]
   go_ret;exact⟨by rw [j.out];rfl,y⟩
 ·have b:decide (0<=id)=false:=oU Y;have H:decide (id<0)=true:=oS;have j:Hid (B=false):=hid (by rw [r.out,b];simp);go_enter func5,ntmps5;go_wp2_with fail;try rw [q]
  go_ret;exact⟨by rw [j.out];rfl,y⟩
theorem Qpf (id:Int)(w:Ur):Cl 68 #[Ud id] w fun e w'=>e=Ui (Un (decide (0<=id) && decide (id<8)))/\ w'=w:=by
 by_cases m:0<=id
 ·have j:decide (0<=id)=true:=oU m;by_cases q:id<8
  ·have k:decide (id<8)=true:=oU q;rw [j,k];go_enter func68,ntmps68;go_wp2_with fail;go_ret;exact⟨rfl,rfl⟩
  ·have k:decide (id<8)=false:=oU q;rw [j,k];go_enter func68,ntmps68;go_wp2_with fail;go_ret;exact⟨rfl,rfl⟩
 ·have j:decide (0<=id)=false:=oU m;rw [j];go_enter func68,ntmps68;go_wp2_with fail;go_ret;exact⟨rfl,rfl⟩
theorem QcW (id:Int)(a x a' x':Option Us)(c d c' d':Nat)(S S':Sx)(w:Ur)(hi:∀i,LfI (gL S.l i))(hi':∀i,LfI (gL S'.l i))(hm:S.Sm)(hm':S'.Sm)(h:SAt w a x S)(h':SAt w a' x' S'):
  Cl 42 #[Uo #[Ud id,Uf a S.l.length c,Uf x S.n d,Uf a' S'.l.length c',Uf x' S'.n d']] w (Rt w (Un (rpB id S S'))):=by
 obtain⟨W,m⟩:=zE (w.alloc (Uj #[Ud id,Uf a S.l.length c,Uf x S.n d,Uf a' S'.l.length c',Uf x' S'.n d'] 30));have u:Bl w W:=m▸zO _ _;have y:Bx5 W w.heap.size (Ud id) (Uf a S.l.length c) (Uf x S.n d) (Uf a' S'.l.length c') (Uf x' S'.n d'):=m▸Bx5.new _ _ _ _ _ _ _;have g:=hid (fun w1(hb:Bl W w1)=>QpS a x c d S w1 hi hm (h.bw (Qaa u hb)));have t:=hid (fun w1(hb:Bl W w1)=>QpS a' x' c' d' S' w1 hi' hm' (h'.bw (Qaa u hb)));have r:Hid (rpB id S S'=(decide (0<=id) && (decide (id<8) && (Qbq S && Qbq S')))):=hid rfl;obtain⟨B,A⟩:=zE (rpB id S S');obtain⟨O,E⟩:=zE (Qbq S);obtain⟨Q,M⟩:=zE (Qbq S');rw [A,E,M] at r;rw [E] at g;rw [M] at t;rw [A];have b:=hid (fun w=>Qpf id w);have z:=hid u;have p:=hid y;obtain⟨X,C,D,F,P⟩:=y.q5;clear h h' u y A E M;by_cases Z:0<=id
 ·have k:decide (0<=id)=true:=oU Z;have J:decide (id<0)=false:=oS;by_cases G:id<8
  ·have q:decide (id<8)=true:=oU G;have K:decide (8<=id)=false:=oS;have j:Hid (B=(O && Q)):=hid (by rw [r.out,k,q];simp);go_enter func42,ntmps42;go_wp2_with fail;refine(b _).mono ?_;rintro e H ⟨rfl,rfl⟩;rw [k,q];go_wp2_with fail;try rw [m]
   clear m;refine(g _ zI).mono ?_;rintro e w1 ⟨rfl,v⟩;have s:=p.bw v p.lt;have L:=s.c3;have N:=s.c4;have U:=hid (Qaa z v);have V:=hid (t w1 v);clear v s X C D F P g t p;cases O with
   | false=>
    have o:Hid (B=false):=hid (by rw [j.out];rfl);go_wp2_with fail;go_ret;exact⟨by rw [o.out];rfl,U⟩
   | true=>
    have o:Hid (B=Q):=hid (by rw [j.out];rfl);go_wp2_with fail;refine V.mono ?_;rintro e R ⟨rfl,Y⟩;have I:=hid (Qaa U Y);clear Y V L N;go_wp2_with fail;go_ret;exact⟨by rw [o.out];rfl,I⟩
  ·have q:decide (id<8)=false:=oU G;have K:decide (8<=id)=true:=oS;have j:Hid (B=false):=hid (by rw [r.out,q];simp);go_enter func42,ntmps42;go_wp2_with fail;refine(b _).mono ?_;rintro e H ⟨rfl,rfl⟩;rw [k,q];go_wp2_with fail;try rw [m]
   go_ret;exact⟨by rw [j.out];rfl,z⟩
 ·have k:decide (0<=id)=false:=oU Z;have J:decide (id<0)=true:=oS;have j:Hid (B=false):=hid (by rw [r.out,k];simp);go_enter func42,ntmps42;go_wp2_with fail;refine(b _).mono ?_;rintro e H ⟨rfl,rfl⟩;rw [k];go_wp2_with fail;try rw [m]
  go_ret;exact⟨by rw [j.out];rfl,z⟩
open Go.Deep
structure Put (C:Lf ->Prop)(ls:List Lf)(L:Nat ->List Lf)(s:Nat):Prop where
 yes:∀k,k<ls.length ->C (gL ls k) ->L (k+1)=Qc1 (gL ls k) (L k)
 no:∀k,k<ls.length ->¬C (gL ls k) ->L (k+1)=L k
 len:∀k,k<=ls.length ->(L k).length<=s+k
 pth:∀k,k<=ls.length ->∀i,i<(L k).length ->1<=(gL (L k) i).p.length/\ (gL (L k) i).p.length<=8
theorem Put.of (C:Lf ->Prop)(ls out:List Lf)(s:Nat)(ho:out.length<=s)(h1:∀i,i<ls.length ->1<=(gL ls i).p.length/\ (gL ls i).p.length<=8)(h2:∀i,i<out.length ->1<=(gL out i).p.length/\ (gL out i).p.length<=8):Put C ls (Qe5 C ls out) s:=
 ⟨fun k hk h=>QfF h,fun k hk h=>Qhj h,fun k hk=>by have:=QdD (P:=C) (ls:=ls) (out:=out) k;omega,fun k hk i hi=>by
  have m:=Qao.2 ⟨i,hi,rfl⟩;rcases Qcv.1 m with h|⟨t,j,_,e⟩
  ·obtain⟨t,j,e⟩:=Qao.1 h;rw [<- e];exact h2 t j
  ·rw [<- e];exact h1 t oM⟩
theorem Qnc (a b:Option Us)(ca cb:Nat)(la lb:List Lf)(xa:Option Us)(n d:Nat)(R F T:Nat ->Int)(x':Option Us)(n' d':Nat)(R' F' T':Nat ->Int)(w:Ur)(hn:n<=1000)(hn':n'<=1000)(ho:Qeo R F T n)(ho':Qeo R' F' T' n')(hla:la.length<=1000)(hlb:lb.length<=1000)(hpa:∀i,i<la.length ->1<=(gL la i).p.length/\ (gL la i).p.length<=8)(Hj:∀i,i<lb.length ->1<=(gL lb i).p.length/\ (gL lb i).p.length<=8)
  (h1:QbY w a la) (h2:QbY w b lb) (h3:QaT w xa n R F T) (h4:QaT w x' n' R' F' T'):
  Cl 30 #[Uo #[Uf a la.length ca,Uf xa n d],Uo #[Uf b lb.length cb,Uf x' n' d']] w fun e w'=>(∃g c ra rc P Q,e=Ui (Uo #[Uf (Uc g) (jn R F T n la R' F' T' n' lb).length c,Uf ra (unL R F T n R' F' T' n').length rc])/\ LC w' w.heap.size (Uf (Uc g) (jn R F T n la R' F' T' n' lb).length c) (jn R F T n la R' F' T' n' lb) P Q/\ FR w' w.heap.size (Uf ra (unL R F T n R' F' T' n').length rc) (unL R F T n R' F' T' n'))/\ Bl w w':=by
 obtain⟨W,hW⟩:=zE ((((w.alloc (Uj #[Uf a la.length ca,Uf xa n d] 28)).alloc (Uj #[Uf b lb.length cb,Uf x' n' d'] 28)).alloc (Uj #[Ue,Ue] 28)).alloc (Uj #[] 85));have b0:Bl w W:=hW▸((Qad _ _ _).alloc oS _).alloc oS _;have zW:W.heap.size=w.heap.size+4:=hW▸oP;have A0:Bx2 W w.heap.size (Uf a la.length ca) (Uf xa n d):=by rw [<- hW];exact(((Bx2.made w _ _ _).allocs _).allocs _).allocs _
 have B0:Bx2 W (w.heap.size+1) (Uf b lb.length cb) (Uf x' n' d'):=by
  rw [<- hW];have:=Bx2.made (w.alloc (Uj #[Uf a la.length ca,Uf xa n d] 28)) (Uf b lb.length cb) (Uf x' n' d') 28;exact((by simpa using this:Bx2 _ (w.heap.size+1) _ _).allocs _).allocs _
 have R0:Bx2 W (w.heap.size+1+1) Ue Ue:=by
  rw [<- hW];have:=Bx2.made ((w.alloc (Uj #[Uf a la.length ca,Uf xa n d] 28)).alloc (Uj #[Uf b lb.length cb,Uf x' n' d'] 28)) Ue Ue 28;exact(by simpa using this:Bx2 _ (w.heap.size+1+1) _ _).allocs _
 have L0:LC W w.heap.size (Uf (Uq (Ua (w.heap.size+3) 0)) 0 0) [] (fun _=>0) (fun _=>0):=by
  refine⟨?_,fun i hi=>by simp at hi⟩;have:=World.ownsRow_lit (base:=w.heap.size) (e:=85) (size:=5) (((w.alloc (Uj #[Uf a la.length ca,Uf xa n d] 28)).alloc (Uj #[Uf b lb.length cb,Uf x' n' d'] 28)).alloc (Uj #[Ue,Ue] 28)) #[] 0 oS oL rfl;rw [hW] at this;simpa using this
 have Gd:=hid A0;have Gh:=hid B0;have Gm:=hid R0;have Gw:=hid L0;have Gf:=hid b0;have G0:=hid zW;have HU:=hid (QeZ xa n d R F T x' n' d' R' F' T' W hn hn' (h3.bw b0) (h4.bw b0) ho ho');have H1:=hid h1;have H2:=hid h2;have H3:=hid h3;have H4:=hid h4;have Gx:=hid hpa;have Gy:=hid Hj;have Gk:=hid (And.intro hla hlb);obtain⟨u,Ga⟩:=zE (Qe5 (fun x=>x∈lb \/¬QbW R' F' T' n' x) la []);obtain⟨Y,Gb⟩:=zE (Qe5 (fun x=>¬QbW R F T n x) lb (u la.length));obtain⟨J,hJ⟩:=zE (jn R F T n la R' F' T' n' lb);have Ho:Hid (Put (fun x=>x∈lb \/¬QbW R' F' T' n' x) la u 0):=hid (by rw [<- Ga];exact Put.of _ la [] 0 zL hpa (fun i hi=>by simp at hi));have Hv:Hid (Put (fun x=>¬QbW R F T n x) lb Y la.length):=hid (Gb▸Put.of _ lb _ _ (oH (Ho.len la.length zL)) Hj (Ho.pth la.length zL));have Ge:Hid (u 0=[]):=hid (by rw [<- Ga];rfl);have Gg:Hid (Y 0=u la.length):=hid (by rw [<- Gb];rfl);have Gv:Hid (Y lb.length=J):=hid (by rw [<- Gb,<- Ga,<- hJ];rfl);rw [hJ];have k1:=A0.c1;have k2:=B0.c1;clear A0 B0 R0 L0 b0 zW h1 h2 h3 h4 hpa Hj hJ Ga Gb;go_enter func30,ntmps30;go_wp2_with fail;try rw [hW]
 clear hW;refine HU.mono ?_;rintro e w1 ⟨vr,rfl,f1,b1⟩;obtain⟨ul,Gs⟩:=zE (unL R F T n R' F' T' n');rw [Gs] at f1;obtain⟨ra,rc,G7,_⟩:=f1.fs;subst G7;obtain⟨w2,Gc⟩:=zE (w1.alloc (Uj #[Uf (Uq (Ua (w.heap.size+1+1+1) 0)) 0 0,Uf ra ul.length rc] 28));have b2:Bl w1 w2:=Gc▸zO _ _;have H0:=Qaa b1 b2;have Gj:Hid (JS w w2 w1.heap.size (Uf a la.length ca) (Uf xa n d) (Uf b lb.length cb) (Uf x' n' d') (w.heap.size+1+1+1) 0 (Uf ra ul.length rc) (u 0) ul (fun _=>0) (fun _=>0)):=hid (by
  have hz:=G0.out;have Ka:=b1.size;rw [Ge.out];refine⟨Gf.trans (H0.mono Gf.size),Gd.bw H0 Gd.lt,Gh.bw H0 Gh.lt,Gm.bw H0 Gm.lt,Gc▸Bx2.made _ _ _ _,Gw.bw H0,(f1.bw b2).weak oM,oM,fun e=> ?_,oM,fun b e=> ?_⟩
  ·have:=(World.ownsRow.lt f1 _ e).2;omega
  ·have:=(World.ownsRow.lt f1 _ e).1;omega)
 have Gz:=hid Gs;clear f1 b1 b2 H0 k1 k2 HU Gd Gh Gm Gw Gf G0 Gs;go_wp2_with fail;try rw [Gc]
 clear Gc;obtain⟨t,hT⟩:=zE w1.heap.size;rw [hT] at Gj ⊢;clear hT;go_loopw [6] (fun i wr=>∃(j g c:Nat) (P Q:Nat ->Nat),j<=la.length/\ i=Ud j/\ Hid (JS w wr t (Uf a la.length ca) (Uf xa n d) (Uf b lb.length cb) (Uf x' n' d') g c (Uf ra ul.length rc) (u j) ul P Q)) (fun i _=>la.length - (intOf i).toNat);case atStart=>exact⟨0,_,_,_,_,Ux _,rfl,Gj⟩
 case round=>
  clear Gj;obtain⟨j,g,c,P,Q,hj,rfl,I⟩:=hrel;have a0:=I.a.c0;by_cases C:j<la.length
  ·have i1:(0:Int)<=(j:Int):=Int.natCast_nonneg _;have i2:(j:Int)<(la.length:Int):=oM;obtain⟨ab,ao,rfl,Gp,H8⟩:=(H1.bw I.low).resolve_left oM;obtain⟨pa,pc,⟨H,d0⟩,sg,B,c2,c3,c4⟩:=H8 j C;obtain⟨D,S,rfl,Hj,Hq⟩:=sg.resolve_left (oH ((Gx j C).1));have Hr:=Gx j C;obtain⟨y,hy⟩:=zE (gL la j);rw [hy] at H B c2 c3 c4 d0 Hq Hr;have HY:=hid hy;obtain⟨m,U,E,s,V⟩:=y;dsimp only at H B c2 c3 c4 d0 Hq Hr;obtain⟨w5,Ht⟩:=zE (wr.alloc (Uj #[Uf (Uq (Ua D S)) m.length pc,Un U,Ud E,Ud s,Um V] 85));have b5:Bl wr w5:=Ht▸zO _ _;have X5:Bx5 w5 wr.heap.size (Uf (Uq (Ua D S)) m.length pc) (Un U) (Ud E) (Ud s) (Um V):=Ht▸Bx5.new _ _ _ _ _ _ _;have Hs:=hid (I.bw b5);have Hw:=hid X5;have Gi:=hid d0;have Hx:=hid Hr;have H9:Hid (QaP w5 (Uq (Ua D S)) m):=hid (.inr ⟨D,S,rfl,Ut Hj b5.size,fun i hi=>(b5.cell (p:=(Ua D (S+i))) Hj).trans (Hq i hi)⟩);obtain⟨x0,x1,x2,x3,x4⟩:=X5.q5;clear hy H8 sg Hq Hj Gp b5 X5 d0 Hr I;have hf:=hid (fun w6 (b6:Bl w5 w6)=>Qnb b (Uq (Ua D S)) cb pc lb m U E s V w6 (oH Gk) Gi.1 Gi.2 ((H2.bw Hs.low).bw b6) (H9.bw b6));obtain⟨e0,e1⟩:=Hs.b.q2;go_upto_region 6 with fail;go_cut [41] from 29 to 41 (fun bb wx=>∃q:Bool,bb=Un q/\ Hid (Bl w5 wx)/\ Hid (q=true ->Qc1 ⟨m,U,E,s,V⟩ (u j)=u (j+1))/\ Hid (q=false ->u (j+1)=u j));case first=>
    go_wp2_with fail;refine(hf w5 zI).mono ?_;rintro e w6 ⟨⟨fi,rfl,G1⟩,b6⟩;have A:=hid (Hs.bw b6);have He:=hid (Hw.bw b6 Hw.lt);have Hl:=hid b6;have Gu:=hid G1;clear e0 e1 hf G1 b6 x0 x1 x2 x3 x4 a0 H B c2 c3 c4 Ht;by_cases Hg:(⟨m,U,E,s,V⟩:Lf)∈lb
    ·have e0:(0:Int)<=fi:=Gu.2 Hg;have Hp:Hid (Qc1 ⟨m,U,E,s,V⟩ (u j)=u (j+1)):=hid (by rw [Ho.yes j C (by rw [HY.out];exact .inl Hg),HY.out]);clear Hg;go_wp2_with fail;go_meet;exact⟨true,rfl,Hl,hid (fun _=>Hp.out),hid (fun h=>by cases h)⟩
    ·have e0:¬(0:Int)<=fi:=fun h=>Hg (Gu.1 h);have dd:decide ((0:Int)<=fi)=false:=decide_eq_false e0;have hh:=hid (fun z (b7:Bl w6 z)=>QmZ x' n' d' R' F' T' E s z oM ((H4.bw A.low).bw b7));have y2:=He.c2;have y3:=He.c3;have z1:=A.b.c1;go_wp2_with fail;refine(hh w6 zI).mono ?_;rintro e z ⟨rfl,b7⟩;have Gt:=hid (Qaa Hl b7);clear b7 y2 y3 z1 hh;cases hq:Qb6 R' F' T' E s s n' with
     | false=>
      have Hp:Hid (Qc1 ⟨m,U,E,s,V⟩ (u j)=u (j+1)):=hid (by rw [Ho.yes j C (by rw [HY.out];exact .inr (fun h=>by unfold QbW at h;rw [hq] at h;cases h)),HY.out]);clear hq Hg;go_wp2_with fail;go_meet;exact⟨true,rfl,Gt,hid (fun _=>Hp.out),hid (fun h=>by cases h)⟩
     | true=>
      have G5:Hid (u (j+1)=u j):=hid (Ho.no j C (by rw [HY.out];exact fun h=>h.elim Hg (fun h=>h hq)));clear hq Hg;go_wp2_with fail;go_meet;exact⟨false,rfl,Gt,hid (fun h=>by cases h),hid (fun _=>G5.out)⟩
   case rest=>
   obtain⟨q,rfl,Hl,Go,Gl⟩:=hcut;obtain⟨w6,G4⟩:=zE wc;rw [G4] at Hl ⊢;have A:=hid (Hs.bw Hl);have He:=hid (Hw.bw Hl Hw.lt);clear G4 e0 e1 hf x0 x1 x2 x3 x4 a0 H B c2 c3 c4 Ht;cases q with
   | true=>
    have Hp:Hid (Qc1 ⟨m,U,E,s,V⟩ (u j)=u (j+1)):=hid (Go rfl);clear Go Gl;have Hd:Hid (∀w',Bl w6 w' ->(w'.cell? (Ub wr.heap.size)=Uq (Uf (Uq (Ua D S)) m.length pc)/\ w'.cell? (Ua wr.heap.size 1)=Uq (Un U)/\ w'.cell? (Ua wr.heap.size 2)=Uq (Ud E)/\ w'.cell? (Ua wr.heap.size 3)=Uq (Ud s)/\ w'.cell? (Ua wr.heap.size 4)=Uq (Um V))):=hid (fun w' b=>by
     have X:=He.bw b He.lt;exact⟨X.c0,X.c1,X.c2,X.c3,X.c4⟩)
    have Hm:Hid (∀w',Bl w6 w' ->Cl 41 #[Uo #[Uf (Uq (Ua D S)) m.length pc,Un U,Ud E,Ud s,Um V]] w' fun e w''=>∃q cap,e=Ui (Uo #[Uf (Uc q) m.length cap,Un U,Ud E,Ud s,Um V])/\ Bl w' w''/\ w'.heap.size<=q/\ q<w''.heap.size/\ Wr w'' q 9 m.length (fun t=> Um (gS m t))/\ m.length<=cap/\ cap<=9223372036854775807):=hid (fun w' b=>by
     obtain⟨G8,G9,e,Hz,Gq⟩:=((H9.bw Hl).bw b).resolve_left (oH Hx.1);injection e with e;injection e with e1 e2;subst e1;subst e2;exact Qej D S m.length pc ⟨m,U,E,s,V⟩ w' rfl (oH Hx.2) Hz Gq)
    have Hn:Hid (∀z q cap,Bl w6 z ->w6.heap.size<=q ->q<z.heap.size ->Wr z q 9 m.length (fun t=> Um (gS m t)) ->m.length<=cap/\ cap<=9223372036854775807 ->Cl 54 #[Uf (Uc g) (u j).length c,Uo #[Uf (Uc q) m.length cap,Un U,Ud E,Ud s,Um V]] z fun e w'=>(∃g' cap' P' Q',e=Ui (Uf (Uc g') ((u j).length+1) cap')/\ z.heap.size<=g'/\ LC w' w.heap.size (Uf (Uc g') ((u j).length+1) cap') (u (j+1)) P' Q')/\ Bl z w'):=hid (fun z q cap b7 hq1 hq2 hw hcap=>by
     have hJ:=A.bw b7;have hs:=hJ.low.size;have G6:=A.low.size;rw [<- Hp.out];exact QhQ g c (u j) P Q z w.heap.size q cap m U E s V hJ.lc hs (by have h1:=Ho.len j oM;have h2:=Gk.out;omega) (fun i hi=>oH ((Ho.pth j oM i hi).2)) (oH Hx.2) ⟨oM,hq2⟩ hw hcap)
    have H6:Hid ((u j).length+1=(u (j+1)).length):=hid (by rw [<- Hp.out,QbL]);have H7:Hid (wr.heap.size≠t):=hid (fun e=>by
     have h1:=He.c1;rw [e,A.o.c1] at h1;cases h1)
    have t0:=(A.o.bw zI.drew A.o.lt).c0;go_wp2_with fail;refine zS Hd (fun qh=> ?_);refine tZ 0 42 ?_;refine tZ 2 44 ?_;refine QaK (i:=1) (j:=3) (d:=Uq 43) (d':=Uq 45) oK oK oK ?_ ?_
    ·
     intro o ho Gr K k;simp only [gZa,gZb,gZc,gZd] at ho;subst ho;go_simp;refine k.out _ _ (Hd _ zI.drew) (fun qh=> ?_);clear k K;try simp only [zP]
     clear t0;refine cZ 3 ?_;intro K k;go_simp;refine(Hm _ zI.drew).mono ?_;rintro e z ⟨q7,Hf,rfl,b7,Hb,Hc,Hk,Ha⟩;have G:Bl w6 z:=⟨b7.os,b7.tape,b7.output,b7.size,b7.block⟩;refine k.out _ _ (Hd _ G) (fun qh=> ?_);clear k K;try simp only [zP]
     have Hh:=hid (Hn z q7 Hf G Hb Hc Hk Ha);clear Hk Ha Hb Hc;refine cZ 4 ?_;intro K k;go_simp;refine Hh.mono ?_;rintro e N ⟨⟨O,M,P8,Q8,rfl,Hy,l8⟩,b8⟩;have L:=Qaa G b8;have Hu:=hid (A.set L l8 H6 (oH G.size) (fun i hi=>(Ho.pth (j+1) C i hi).1));have O8:=A.o.bw L A.o.lt;refine k.out _ _ (Hd _ L) (fun qh=> ?_);clear k K;try simp only [zP]
     refine tZ 5 47 ?_;have o0:=O8.c0;have of:=O8.f 0;have Z:=((He.bw L He.lt).setFar t (Uf (Uc O) ((u j).length+1) M) H7);have Hi:=hid (⟨Z.c0,Z.c1,Z.c2,Z.c3,Z.c4⟩:(N.setCell (Ub t) (Uf (Uc O) ((u j).length+1) M)).cell? (Ub wr.heap.size)=Uq (Uf (Uq (Ua D S)) m.length pc)/\ (N.setCell (Ub t) (Uf (Uc O) ((u j).length+1) M)).cell? (Ua wr.heap.size 1)=Uq (Un U)/\ (N.setCell (Ub t) (Uf (Uc O) ((u j).length+1) M)).cell? (Ua wr.heap.size 2)=Uq (Ud E)/\ (N.setCell (Ub t) (Uf (Uc O) ((u j).length+1) M)).cell? (Ua wr.heap.size 3)=Uq (Ud s)/\ (N.setCell (Ub t) (Uf (Uc O) ((u j).length+1) M)).cell? (Ua wr.heap.size 4)=Uq (Um V));clear O8 Z;refine cZ 6 ?_;intro K k;go_simp;refine k.out _ _ Hi (fun qh=> ?_);clear k K;try simp only [zP]
     refine zD ?_;clear qh b7 G b8 L l8 Hy o0 of Hh Hn Hm Hd Hi;go_wp2_with fail;go_roundw;case rel=>exact⟨j+1,O,M,P8,Q8,C,oN,Hu⟩
     case measure=>exact oE
    ·
     clear t0;intro o ho Gr K k;simp only [gZa,gZb,gZc,gZd] at ho;subst ho;go_simp;refine(Hm _ zI.drew).mono ?_;rintro e z ⟨q7,Hf,rfl,b7,Hb,Hc,Hk,Ha⟩;have G:Bl w6 z:=⟨b7.os,b7.tape,b7.output,b7.size,b7.block⟩;refine k.out _ _ (Hd _ G) (fun qh=> ?_);clear k K;try simp only [zP]
     have t0:=(A.o.bw G A.o.lt).c0;refine cZ 1 ?_;intro K k;go_simp;refine k.out _ _ (Hd _ G) (fun qh=> ?_);clear k K;try simp only [zP]
     clear t0;have Hh:=hid (Hn z q7 Hf G Hb Hc Hk Ha);clear Hk Ha Hb Hc;refine cZ 4 ?_;intro K k;go_simp;refine Hh.mono ?_;rintro e N ⟨⟨O,M,P8,Q8,rfl,Hy,l8⟩,b8⟩;have L:=Qaa G b8;have Hu:=hid (A.set L l8 H6 (oH G.size) (fun i hi=>(Ho.pth (j+1) C i hi).1));have O8:=A.o.bw L A.o.lt;refine k.out _ _ (Hd _ L) (fun qh=> ?_);clear k K;try simp only [zP]
     refine tZ 5 47 ?_;have o0:=O8.c0;have of:=O8.f 0;have Z:=((He.bw L He.lt).setFar t (Uf (Uc O) ((u j).length+1) M) H7);have Hi:=hid (⟨Z.c0,Z.c1,Z.c2,Z.c3,Z.c4⟩:(N.setCell (Ub t) (Uf (Uc O) ((u j).length+1) M)).cell? (Ub wr.heap.size)=Uq (Uf (Uq (Ua D S)) m.length pc)/\ (N.setCell (Ub t) (Uf (Uc O) ((u j).length+1) M)).cell? (Ua wr.heap.size 1)=Uq (Un U)/\ (N.setCell (Ub t) (Uf (Uc O) ((u j).length+1) M)).cell? (Ua wr.heap.size 2)=Uq (Ud E)/\ (N.setCell (Ub t) (Uf (Uc O) ((u j).length+1) M)).cell? (Ua wr.heap.size 3)=Uq (Ud s)/\ (N.setCell (Ub t) (Uf (Uc O) ((u j).length+1) M)).cell? (Ua wr.heap.size 4)=Uq (Um V));clear O8 Z;refine cZ 6 ?_;intro K k;go_simp;refine k.out _ _ Hi (fun qh=> ?_);clear k K;try simp only [zP]
     refine zD ?_;clear qh b7 G b8 L l8 Hy o0 of Hh Hn Hm Hd Hi;go_wp2_with fail;go_roundw;case rel=>exact⟨j+1,O,M,P8,Q8,C,oN,Hu⟩
     case measure=>exact oE
   | false=>
    have Gn:Hid (JS w w6 t (Uf (Uq (Ua ab ao)) la.length ca) (Uf xa n d) (Uf b lb.length cb) (Uf x' n' d') g c (Uf ra ul.length rc) (u (j+1)) ul P Q):=hid (by
     rw [Gl rfl];exact A)
    clear Go Gl;go_wp2_with fail;go_roundw;case rel=>exact⟨j+1,g,c,P,Q,C,oN,Gn⟩
    case measure=>exact oE
  ·obtain rfl:j=la.length:=oM;have H5:Hid (JS w wr t (Uf a la.length ca) (Uf xa n d) (Uf b lb.length cb) (Uf x' n' d') g c (Uf ra ul.length rc) (Y 0) ul P Q):=hid (by rw [Gg.out];exact I);clear I;go_wp2_with fail;clear a0;try go_frame
   go_loopw [8] (fun i wr=>∃(j g c:Nat) (P Q:Nat ->Nat),j<=lb.length/\ i=Ud j/\ Hid (JS w wr t (Uf a la.length ca) (Uf xa n d) (Uf b lb.length cb) (Uf x' n' d') g c (Uf ra ul.length rc) (Y j) ul P Q)) (fun i _=>lb.length - (intOf i).toNat);case atStart=>exact⟨0,_,_,_,_,Ux _,rfl,H5⟩
   case round=>
    clear H5;obtain⟨j,g,c,P,Q,hj,rfl,I⟩:=hrel;have a0:=I.b.c0;by_cases C:j<lb.length
    ·have i1:(0:Int)<=(j:Int):=Int.natCast_nonneg _;have i2:(j:Int)<(lb.length:Int):=oM;obtain⟨ab,ao,rfl,Gp,H8⟩:=(H2.bw I.low).resolve_left oM;obtain⟨pa,pc,⟨H,d0⟩,sg,B,c2,c3,c4⟩:=H8 j C;obtain⟨D,S,rfl,Hj,Hq⟩:=sg.resolve_left (oH ((Gy j C).1));have Hr:=Gy j C;obtain⟨y,hy⟩:=zE (gL lb j);rw [hy] at H B c2 c3 c4 d0 Hq Hr;have HY:=hid hy;obtain⟨m,U,E,s,V⟩:=y;dsimp only at H B c2 c3 c4 d0 Hq Hr;obtain⟨w5,Ht⟩:=zE (wr.alloc (Uj #[Uf (Uq (Ua D S)) m.length pc,Un U,Ud E,Ud s,Um V] 85));have b5:Bl wr w5:=Ht▸zO _ _;have X5:Bx5 w5 wr.heap.size (Uf (Uq (Ua D S)) m.length pc) (Un U) (Ud E) (Ud s) (Um V):=Ht▸Bx5.new _ _ _ _ _ _ _;have Hs:=hid (I.bw b5);have Hw:=hid X5;have Gi:=hid d0;have Hx:=hid Hr;have H9:Hid (QaP w5 (Uq (Ua D S)) m):=hid (.inr ⟨D,S,rfl,Ut Hj b5.size,fun i hi=>(b5.cell (p:=(Ua D (S+i))) Hj).trans (Hq i hi)⟩);obtain⟨x0,x1,x2,x3,x4⟩:=X5.q5;clear hy H8 sg Hq Hj Gp b5 X5 d0 Hr I;have hh:=hid (fun z (b7:Bl w5 z)=>QmZ xa n d R F T E s z oM ((H3.bw Hs.low).bw b7));have z1:=Hs.a.c1;go_wp2_with fail;refine(hh w5 zI).mono ?_;rintro e w6 ⟨rfl,b6⟩;have A:=hid (Hs.bw b6);have He:=hid (Hw.bw b6 Hw.lt);have Hl:=hid b6;clear z1 hh b6 x0 x1 x2 x3 x4 a0 H B c2 c3 c4 Ht;cases hh:Qb6 R F T E s s n with
     | false=>
      have Hp:Hid (Qc1 ⟨m,U,E,s,V⟩ (Y j)=Y (j+1)):=hid (by rw [Hv.yes j C (by rw [HY.out];exact fun h=>by unfold QbW at h;rw [hh] at h;cases h),HY.out]);clear hh;have Hd:Hid (∀w',Bl w6 w' ->(w'.cell? (Ub wr.heap.size)=Uq (Uf (Uq (Ua D S)) m.length pc)/\ w'.cell? (Ua wr.heap.size 1)=Uq (Un U)/\ w'.cell? (Ua wr.heap.size 2)=Uq (Ud E)/\ w'.cell? (Ua wr.heap.size 3)=Uq (Ud s)/\ w'.cell? (Ua wr.heap.size 4)=Uq (Um V))):=hid (fun w' b=>by
       have X:=He.bw b He.lt;exact⟨X.c0,X.c1,X.c2,X.c3,X.c4⟩)
      have Hm:Hid (∀w',Bl w6 w' ->Cl 41 #[Uo #[Uf (Uq (Ua D S)) m.length pc,Un U,Ud E,Ud s,Um V]] w' fun e w''=>∃q cap,e=Ui (Uo #[Uf (Uc q) m.length cap,Un U,Ud E,Ud s,Um V])/\ Bl w' w''/\ w'.heap.size<=q/\ q<w''.heap.size/\ Wr w'' q 9 m.length (fun t=> Um (gS m t))/\ m.length<=cap/\ cap<=9223372036854775807):=hid (fun w' b=>by
       obtain⟨G8,G9,e,Hz,Gq⟩:=((H9.bw Hl).bw b).resolve_left (oH Hx.1);injection e with e;injection e with e1 e2;subst e1;subst e2;exact Qej D S m.length pc ⟨m,U,E,s,V⟩ w' rfl (oH Hx.2) Hz Gq)
      have Hn:Hid (∀z q cap,Bl w6 z ->w6.heap.size<=q ->q<z.heap.size ->Wr z q 9 m.length (fun t=> Um (gS m t)) ->m.length<=cap/\ cap<=9223372036854775807 ->Cl 54 #[Uf (Uc g) (Y j).length c,Uo #[Uf (Uc q) m.length cap,Un U,Ud E,Ud s,Um V]] z fun e w'=>(∃g' cap' P' Q',e=Ui (Uf (Uc g') ((Y j).length+1) cap')/\ z.heap.size<=g'/\ LC w' w.heap.size (Uf (Uc g') ((Y j).length+1) cap') (Y (j+1)) P' Q')/\ Bl z w'):=hid (fun z q cap b7 hq1 hq2 hw hcap=>by
       have hJ:=A.bw b7;have hs:=hJ.low.size;have G6:=A.low.size;rw [<- Hp.out];exact QhQ g c (Y j) P Q z w.heap.size q cap m U E s V hJ.lc hs (by have h1:=Hv.len j oM;have h2:=Gk.out;omega) (fun i hi=>oH ((Hv.pth j oM i hi).2)) (oH Hx.2) ⟨oM,hq2⟩ hw hcap)
      have H6:Hid ((Y j).length+1=(Y (j+1)).length):=hid (by rw [<- Hp.out,QbL]);have H7:Hid (wr.heap.size≠t):=hid (fun e=>by
       have h1:=He.c1;rw [e,A.o.c1] at h1;cases h1)
      have t0:=(A.o.bw zI.drew A.o.lt).c0;go_wp2_with fail;refine zS Hd (fun qh=> ?_);refine tZ 0 66 ?_;refine tZ 2 68 ?_;refine QaK (i:=1) (j:=3) (d:=Uq 67) (d':=Uq 69) oK oK oK ?_ ?_
      ·
       intro o ho Gr K k;simp only [gZa,gZb,gZc,gZd] at ho;subst ho;go_simp;refine k.out _ _ (Hd _ zI.drew) (fun qh=> ?_);clear k K;try simp only [zP]
       clear t0;refine cZ 3 ?_;intro K k;go_simp;refine(Hm _ zI.drew).mono ?_;rintro e z ⟨q7,Hf,rfl,b7,Hb,Hc,Hk,Ha⟩;have G:Bl w6 z:=⟨b7.os,b7.tape,b7.output,b7.size,b7.block⟩;refine k.out _ _ (Hd _ G) (fun qh=> ?_);clear k K;try simp only [zP]
       have Hh:=hid (Hn z q7 Hf G Hb Hc Hk Ha);clear Hk Ha Hb Hc;refine cZ 4 ?_;intro K k;go_simp;refine Hh.mono ?_;rintro e N ⟨⟨O,M,P8,Q8,rfl,Hy,l8⟩,b8⟩;have L:=Qaa G b8;have Hu:=hid (A.set L l8 H6 (oH G.size) (fun i hi=>(Hv.pth (j+1) C i hi).1));have O8:=A.o.bw L A.o.lt;refine k.out _ _ (Hd _ L) (fun qh=> ?_);clear k K;try simp only [zP]
       refine tZ 5 71 ?_;have o0:=O8.c0;have of:=O8.f 0;have Z:=((He.bw L He.lt).setFar t (Uf (Uc O) ((Y j).length+1) M) H7);have Hi:=hid (⟨Z.c0,Z.c1,Z.c2,Z.c3,Z.c4⟩:(N.setCell (Ub t) (Uf (Uc O) ((Y j).length+1) M)).cell? (Ub wr.heap.size)=Uq (Uf (Uq (Ua D S)) m.length pc)/\ (N.setCell (Ub t) (Uf (Uc O) ((Y j).length+1) M)).cell? (Ua wr.heap.size 1)=Uq (Un U)/\ (N.setCell (Ub t) (Uf (Uc O) ((Y j).length+1) M)).cell? (Ua wr.heap.size 2)=Uq (Ud E)/\ (N.setCell (Ub t) (Uf (Uc O) ((Y j).length+1) M)).cell? (Ua wr.heap.size 3)=Uq (Ud s)/\ (N.setCell (Ub t) (Uf (Uc O) ((Y j).length+1) M)).cell? (Ua wr.heap.size 4)=Uq (Um V));clear O8 Z;refine cZ 6 ?_;intro K k;go_simp;refine k.out _ _ Hi (fun qh=> ?_);clear k K;try simp only [zP]
       refine zD ?_;clear qh b7 G b8 L l8 Hy o0 of Hh Hn Hm Hd Hi;go_wp2_with fail;go_roundw;case rel=>exact⟨j+1,O,M,P8,Q8,C,oN,Hu⟩
       case measure=>exact oE
      ·
       clear t0;intro o ho Gr K k;simp only [gZa,gZb,gZc,gZd] at ho;subst ho;go_simp;refine(Hm _ zI.drew).mono ?_;rintro e z ⟨q7,Hf,rfl,b7,Hb,Hc,Hk,Ha⟩;have G:Bl w6 z:=⟨b7.os,b7.tape,b7.output,b7.size,b7.block⟩;refine k.out _ _ (Hd _ G) (fun qh=> ?_);clear k K;try simp only [zP]
       have t0:=(A.o.bw G A.o.lt).c0;refine cZ 1 ?_;intro K k;go_simp;refine k.out _ _ (Hd _ G) (fun qh=> ?_);clear k K;try simp only [zP]
       clear t0;have Hh:=hid (Hn z q7 Hf G Hb Hc Hk Ha);clear Hk Ha Hb Hc;refine cZ 4 ?_;intro K k;go_simp;refine Hh.mono ?_;rintro e N ⟨⟨O,M,P8,Q8,rfl,Hy,l8⟩,b8⟩;have L:=Qaa G b8;have Hu:=hid (A.set L l8 H6 (oH G.size) (fun i hi=>(Hv.pth (j+1) C i hi).1));have O8:=A.o.bw L A.o.lt;refine k.out _ _ (Hd _ L) (fun qh=> ?_);clear k K;try simp only [zP]
       refine tZ 5 71 ?_;have o0:=O8.c0;have of:=O8.f 0;have Z:=((He.bw L He.lt).setFar t (Uf (Uc O) ((Y j).length+1) M) H7);have Hi:=hid (⟨Z.c0,Z.c1,Z.c2,Z.c3,Z.c4⟩:(N.setCell (Ub t) (Uf (Uc O) ((Y j).length+1) M)).cell? (Ub wr.heap.size)=Uq (Uf (Uq (Ua D S)) m.length pc)/\ (N.setCell (Ub t) (Uf (Uc O) ((Y j).length+1) M)).cell? (Ua wr.heap.size 1)=Uq (Un U)/\ (N.setCell (Ub t) (Uf (Uc O) ((Y j).length+1) M)).cell? (Ua wr.heap.size 2)=Uq (Ud E)/\ (N.setCell (Ub t) (Uf (Uc O) ((Y j).length+1) M)).cell? (Ua wr.heap.size 3)=Uq (Ud s)/\ (N.setCell (Ub t) (Uf (Uc O) ((Y j).length+1) M)).cell? (Ua wr.heap.size 4)=Uq (Um V));clear O8 Z;refine cZ 6 ?_;intro K k;go_simp;refine k.out _ _ Hi (fun qh=> ?_);clear k K;try simp only [zP]
       refine zD ?_;clear qh b7 G b8 L l8 Hy o0 of Hh Hn Hm Hd Hi;go_wp2_with fail;go_roundw;case rel=>exact⟨j+1,O,M,P8,Q8,C,oN,Hu⟩
       case measure=>exact oE
     | true=>
      have Gn:Hid (JS w w6 t (Uf a la.length ca) (Uf xa n d) (Uf (Uq (Ua ab ao)) lb.length cb) (Uf x' n' d') g c (Uf ra ul.length rc) (Y (j+1)) ul P Q):=hid (by
       rw [Hv.no j C (by rw [HY.out];exact fun h=>h hh)];exact A)
      clear hh;go_wp2_with fail;go_roundw;case rel=>exact⟨j+1,g,c,P,Q,C,oN,Gn⟩
      case measure=>exact oE
    ·obtain rfl:j=lb.length:=oM;rw [Gv.out] at I;obtain⟨o0,o1⟩:=I.o.q2;obtain⟨r0,r1⟩:=I.r.q2;have f0:=I.r.f 0;have f1:=I.r.f 1;have HC:=hid (I.r.set (Uf (Uc g) J.length c) (Uf ra ul.length rc));go_wp2_with fail;obtain⟨s0,s1⟩:=HC.q2;have hP:∀i,i<J.length ->P i≠w.heap.size+1+1:=fun i hi e=>by
      have hp:=Hv.pth lb.length zL;rw [Gv.out] at hp;have hw:=(I.lc.pt i hi).2.2.2.1.cell (i:=0) (oH ((hp i hi).1));rw [e,I.r.c0] at hw;cases hw
     have G2:(Value.slice (Uc g) J.length c).ownBlock≠Uq (w.heap.size+1+1):=fun e=>by have h1:=Qbo e;have h2:=I.hg;omega
     have G3:(Value.slice ra ul.length rc).ownBlock≠Uq (w.heap.size+1+1):=fun e=>by have:=I.hv2 _ e;omega
     refine zF (v:=Uo #[Uf (Uc g) J.length c,Uf ra ul.length rc]) (by simp [results,results30,go_sem,s0,s1]) ⟨⟨g,c,ra,rc,P,Q,by rw [Gz.out],?_,?_⟩,?_⟩
     ·exact(I.lc.set _ _ G2 hP).set _ _ G2 hP
     ·rw [Gz.out];exact(I.fr.setFar _ _ G3).setFar _ _ G3
     ·exact(I.low.setCell oS _).setCell oS _
def jnU (S S':Sx):List Rn:=unL S.R S.F S.T S.n S'.R S'.F S'.T S'.n
noncomputable def jnS (S S':Sx):Sx:=⟨jn S.R S.F S.T S.n S.l S'.R S'.F S'.T S'.n S'.l,(jnU S S').length,fun i=>(gR (jnU S S') i).1,fun i=>(gR (jnU S S') i).2.1,fun i=>(gR (jnU S S') i).2.2⟩
noncomputable def stB (S:Sx):Bool:=yes (Qba S.R S.F S.T S.n S.l)
noncomputable def jnF (S S':Sx):Bool:=decide ((jnS S S').l.length<=1000) && decide ((jnS S S').n<=1000)
noncomputable def jnB (S S':Sx):Bool:=stB S && stB S' && jnF S S'
def Sx.mt:Sx:=⟨[],0,fun _=>0,fun _=>0,fun _=>0⟩
noncomputable def jnZ (S S':Sx):Sx:=if jnB S S' then jnS S S' else Sx.mt
theorem Qd9 {S:Sx}(h:stB S=true):Qba S.R S.F S.T S.n S.l:=Classical.byContradiction fun hn=>by unfold stB at h;rw [Qag hn] at h;cases h
theorem Qqt {S:Sx}(h:stB S=false):¬Qba S.R S.F S.T S.n S.l:=fun hn=>by unfold stB at h;rw [Qaj hn] at h;cases h
theorem QmV {S S':Sx}(h:jnB S S'=true):jnZ S S'=jnS S S':=by unfold jnZ;rw [if_pos h]
theorem QgY {S S':Sx}(h:jnB S S'=false):jnZ S S'=Sx.mt:=by unfold jnZ;rw [if_neg (by rw [h];simp)]
structure SNc (w:Ur)(lo:Nat)(a:Option Us)(c:Nat)(x:Option Us)(S:Sx):Prop where
 nc:∀w':Ur,w.heap.size<=w'.heap.size ->(∀q,lo<=q ->q<w.heap.size ->w'.heap[q]? =w.heap[q]?) ->QbY w' a S.l/\ QaT w' x S.n S.R S.F S.T
 cp:S.l.length<=c/\ c<=9223372036854775807
theorem SNc.at{S:Sx}(h:SNc w lo a c x S):QbY w a S.l/\ QaT w x S.n S.R S.F S.T:=h.nc w zL (fun _ _ _=>rfl)
theorem SNc.move{S:Sx}(h:SNc w lo a c x S)(hl:lo'<=lo)(hs:w.heap.size<=w1.heap.size)(hq:∀q,lo<=q ->q<w.heap.size ->w1.heap[q]? =w.heap[q]?):SNc w1 lo' a c x S:=
 ⟨fun w' h1 h2=>h.nc w' (Uw hs h1) (fun q h3 h4=>(h2 q (Uw hl h3) (Ut h4 hs)).trans (hq q h3 h4)),h.cp⟩
theorem SNc.bw{S:Sx}(h:SNc w lo a c x S)(hb:Bl w w1):SNc w1 lo a c x S:=h.move zL hb.size (fun q _ h2=>hb.block q h2)
theorem SNc.mt (w:Ur)(lo:Nat)(a x:Option Us):SNc w lo a 0 x Sx.mt:=⟨fun w' _ _=>⟨.inl rfl,.inl rfl⟩,Uv _,oM⟩
theorem LC.cp{P Q:Nat ->Nat}(h:LC w lo (Uf (Uc g) n c) l P Q)(hn:l.length=n):l.length<=c/\ c<=9223372036854775807:=by
 rcases h.row.2 with ⟨e,r⟩|⟨u,m,q,j,y,v,z,k,t,o⟩
 ·injection e with e1 e2 e3;cases e1
 ·injection j with e1 e2 e3;subst e3;unfold maxLen at k;omega
theorem LC.lcap{P Q:Nat ->Nat}(h:LC w lo (Uf (Uc g) n c) l P Q)(hn:n=l.length):QbY w (Uc g) l:=by
 refine .inr ⟨g,0,rfl,(h.lt g rfl).2,fun i hi=> ?_⟩;obtain⟨j,k,m,q,r⟩:=h.cell hn hi;refine⟨Uq ⟨P i,0,Up⟩,Q i,⟨?_,(h.pt i hi).2.2.2.2⟩,h.seg hi,?_,?_,?_,?_⟩
 ·rw [VS];exact j
 ·rw [VS];exact k
 ·rw [VS];exact m
 ·rw [VS];exact q
 ·rw [VS];exact r
theorem QpX{ra:Option Us}{rc:Nat}{S S':Sx}{P Q:Nat ->Nat}(h:LC w lo (Uf (Uc g) (jnS S S').l.length c) (jnS S S').l P Q)(hf:FR w lo (Uf ra (jnU S S').length rc) (jnU S S')):SNc w lo (Uc g) c ra (jnS S S'):=⟨fun w' h1 h2=>by
 have k:=h.move h1 h2;have j:FR w' lo (Uf ra (jnU S S').length rc) (jnU S S'):=Qap hf (fun q hq=>h2 q (World.ownsRow.lt hf q hq).1 (World.ownsRow.lt hf q hq).2);obtain⟨a,c',e,s,_,_⟩:=j.fs;injection e with e1 e2 e3;subst e1;exact⟨k.lcap rfl,s.rseg⟩,h.cp rfl⟩
theorem Qgx {S:Sx}(h:Qba S.R S.F S.T S.n S.l):∀i,i<S.l.length ->1<=(gL S.l i).p.length/\ (gL S.l i).p.length<=8:=fun i hi=>by
 have:=(h.2.2.1 i hi).1;exact⟨this.1.1,this.1.2.1⟩
theorem QlJ {S S':Sx}(hs:StW S.R S.F S.T S.n S.l)(hs':StW S'.R S'.F S'.T S'.n S'.l):(jnS S S').l.length<=2000/\ (jnU S S').length<=4000:=by
 have k:=hs.2.1;have m:=hs'.2.1;have q:=hs.1;have r:=hs'.1;constructor
 ·have e:(jnS S S').l=Qe5 (fun x=>¬QbW S.R S.F S.T S.n x) S'.l (Qe5 (fun x=>x∈S'.l \/¬QbW S'.R S'.F S'.T S'.n x) S.l [] S.l.length) S'.l.length:=rfl;rw [e];have u:=QdD (P:=fun x=>¬QbW S.R S.F S.T S.n x) (ls:=S'.l) (out:=Qe5 (fun x=>x∈S'.l \/¬QbW S'.R S'.F S'.T S'.n x) S.l [] S.l.length) S'.l.length;have j:=QdD (P:=fun x=>x∈S'.l \/¬QbW S'.R S'.F S'.T S'.n x) (ls:=S.l) (out:=[]) S.l.length;simp at j;omega
 ·have:=Qdx (flat S'.R S'.F S'.T S'.n) (flat S.R S.F S.T S.n);rw [QaV,QaV] at this;show (unF (flat S.R S.F S.T S.n) (flat S'.R S'.F S'.T S'.n)).length<=4000;omega
theorem Qhc (a x:Option Us)(m n c d:Nat)(w:Ur)(hm:m<=1048576)(hn:n<=1048576):Cl 31 #[Uo #[Uf a m c,Uf x n d]] w (Rt w (Un (decide (m<=1000) && decide (n<=1000)))):=by
 obtain⟨W,q⟩:=zE (w.alloc (Uj #[Uf a m c,Uf x n d] 28));have v:Bl w W:=q▸zO _ _;have u:Bx2 W w.heap.size (Uf a m c) (Uf x n d):=q▸Bx2.made _ _ _ _;have r:=hid v;obtain⟨i,p⟩:=u.q2;have j:Hid (∀b:Bool,(b=true↔m<=1000/\ n<=1000) ->(decide (m<=1000) && decide (n<=1000))=b):=hid (fun b hb=>by
  cases b with
  | true=>have:=hb.1 rfl;simp [this.1,this.2]
  | false=>
   cases h:(decide (m<=1000) && decide (n<=1000)) with
   | false=>rfl
   | true=>exact absurd (hb.2 (oU h)) oP)
 obtain⟨B,g⟩:=zE ((decide (m<=1000) && decide (n<=1000)));rw [g] at j ⊢;clear v u g;by_cases y:m<=1000
 ·have t:(m:Int)<=1000:=oM;by_cases z:n<=1000
  ·have o:(n:Int)<=1000:=oM;have k:=hid (j true ⟨fun _=>⟨y,z⟩,fun _=>rfl⟩);clear j;go_enter func31,ntmps31;go_wp2_with fail;try rw [q]
   go_ret;exact⟨Qaz k.symm,r⟩
  ·have o:¬(n:Int)<=1000:=oM;have k:=hid (j false ⟨fun h=>by simp at h,fun h=>absurd h.2 z⟩);clear j;go_enter func31,ntmps31;go_wp2_with fail;try rw [q]
   go_ret;exact⟨Qaz k.symm,r⟩
 ·have t:¬(m:Int)<=1000:=oM;have k:=hid (j false ⟨fun h=>by simp at h,fun h=>absurd h.1 y⟩);clear j;go_enter func31,ntmps31;go_wp2_with fail;try rw [q]
  go_ret;exact⟨Qaz k.symm,r⟩
theorem Qey (sa sx ta tx:Option Us)(c d c' d':Nat)(S S':Sx)(w:Ur)(hm:S.Sm)(hm':S'.Sm)(h:SCt w sa sx S)(h':SCt w ta tx S'):
  Cl 12 #[Uo #[Uf sa S.l.length c,Uf sx S.n d],Uo #[Uf ta S'.l.length c',Uf tx S'.n d']] w fun e w'=>∃a m x t,e=Ui (Ul #[Uo #[Uf a (jnZ S S').l.length m,Uf x (jnZ S S').n t],Un (jnB S S')])/\ SNc w' w.heap.size a m x (jnZ S S')/\ Bl w w'/\ (jnZ S S').l.length<=m/\ m<=9223372036854775807:=by
 obtain⟨W,s⟩:=zE (((w.alloc (Uj #[Uf sa S.l.length c,Uf sx S.n d] 28)).alloc (Uj #[Uf ta S'.l.length c',Uf tx S'.n d'] 28)).alloc (Uj #[Ue,Ue] 28));have N:Bl w W:=s▸(Qad _ _ _).alloc oS _;have A0:Bx2 W w.heap.size (Uf sa S.l.length c) (Uf sx S.n d):=s▸((Bx2.made w _ _ _).allocs _).allocs _;have B0:Bx2 W (w.heap.size+1) (Uf ta S'.l.length c') (Uf tx S'.n d'):=by
  rw [<- s];have:=Bx2.made (w.alloc (Uj #[Uf sa S.l.length c,Uf sx S.n d] 28)) (Uf ta S'.l.length c') (Uf tx S'.n d') 28;exact(by simpa using this:Bx2 _ (w.heap.size+1) _ _).allocs _
 have R0:Bx2 W (w.heap.size+1+1) Ue Ue:=by
  rw [<- s];simpa using Bx2.made ((w.alloc (Uj #[Uf sa S.l.length c,Uf sx S.n d] 28)).alloc (Uj #[Uf ta S'.l.length c',Uf tx S'.n d'] 28)) Ue Ue 28
 have zW:W.heap.size=w.heap.size+3:=s▸oP;have HS:=hid (h.bw N);have Hl:=hid (h'.bw N);have L:=hid (Qb3 sa c S.l sx S.n d S.R S.F S.T W hm.l1 hm.p1 hm.n1 HS.lf HS.rn);have Hc:=hid (fun w1 (k:Bl W w1)=>Qb3 ta c' S'.l tx S'.n d' S'.R S'.F S'.T w1 hm'.l1 hm'.p1 hm'.n1 (Hl.bw k).lf (Hl.bw k).rn);have J:=hid A0;have u:=hid B0;have Hx:=hid R0;have Hs:=hid N;have H6:=hid zW;obtain⟨k0,k1⟩:=A0.q2;change Hid (Calls _ _ _ _ fun e w'=>e=Ui (Un (stB S))/\ _) at L;obtain⟨B,p⟩:=zE (stB S);obtain⟨B',Ho⟩:=zE (stB S');have Hn:=hid p;have Hb:=hid Ho;have Hd:Hid (∀w1,Bl W w1 ->Cl 29 #[Uo #[Uf ta S'.l.length c',Uf tx S'.n d']] w1 (Rt w1 (Un B'))):=hid (fun w1 k=>Ho▸Hc.out w1 k);rw [p] at L;clear N A0 B0 R0 zW h h' p Ho Hc;go_enter func12,ntmps12;go_wp2_with fail;try rw [s]
 clear s;refine L.mono ?_;rintro e w1 ⟨rfl,k⟩;have He:=hid (Hs.trans (k.mono Hs.size));have Hz:=hid k;have U:=hid (Hx.bw k Hx.lt);clear k0 k1 L;cases B with
 | false=>
  have j:Hid (jnB S S'=false/\ jnZ S S'=Sx.mt):=hid (by
   have e:jnB S S'=false:=(by unfold jnB;rw [Hn.out];rfl);exact⟨e,QgY e⟩)
  clear k;obtain⟨r0,r1⟩:=U.q2;have f0:=U.f 0;have f1:=U.f 1;have z:=hid (U.set Ue Ue);go_wp2_with fail;obtain⟨M,O⟩:=z.q2;refine zF (v:=Ul #[Uo #[Ue,Ue],Un false]) (by simp [results,results12,go_sem,M,O]) ⟨Up,0,Up,0,by rw [j.1,j.2];rfl,?_,?_⟩
  ·rw [j.2];exact SNc.mt _ _ _ _
  ·exact⟨(He.setCell oS _).setCell oS _,by rw [j.2];exact⟨Uv _,oM⟩⟩
 | true=>
  have l0:=(u.bw k u.lt).c0;have I:=(u.bw k u.lt).c1;clear k;go_wp2_with fail;refine(Hd w1 Hz).mono ?_;rintro e w2 ⟨rfl,X⟩;have Hf:=hid (He.trans (X.mono He.size));have o:=hid (Qaa Hz X);have V:=hid (U.bw X U.lt);clear X l0 I Hd;cases B' with
  | false=>
   have j:Hid (jnB S S'=false/\ jnZ S S'=Sx.mt):=hid (by
    have e:jnB S S'=false:=(by unfold jnB;rw [Hb.out];simp);exact⟨e,QgY e⟩)
   obtain⟨r0,r1⟩:=V.q2;have f0:=V.f 0;have f1:=V.f 1;have z:=hid (V.set Ue Ue);go_wp2_with fail;obtain⟨M,O⟩:=z.q2;refine zF (v:=Ul #[Uo #[Ue,Ue],Un false]) (by simp [results,results12,go_sem,M,O]) ⟨Up,0,Up,0,by rw [j.1,j.2];rfl,?_,?_⟩
   ·rw [j.2];exact SNc.mt _ _ _ _
   ·exact⟨(Hf.setCell oS _).setCell oS _,by rw [j.2];exact⟨Uv _,oM⟩⟩
  | true=>
   have G:=Qd9 Hn;have H:=Qd9 Hb;have hc:=Qal.1 G.1;have Hr:=Qal.1 H.1;have Hm:=HS.bw o;have Ha:=Hl.bw o;have Hi:=hid (Qnc sa ta c c' S.l S'.l sx S.n d S.R S.F S.T tx S'.n d' S'.R S'.F S'.T w2 hc.2 Hr.2 hc.1 Hr.1 G.2.1 H.2.1 (Qgx G) (Qgx H) Hm.lf Ha.lf Hm.rn Ha.rn);have Hk:Hid ((jnS S S').l.length<=2000/\ (jnU S S').length<=4000):=hid (QlJ G.w H.w);have l0:=(J.bw o J.lt).c0;have I:=(J.bw o J.lt).c1;have l2:=(u.bw o u.lt).c0;have l3:=(u.bw o u.lt).c1;have Hh:Hid (jn S.R S.F S.T S.n S.l S'.R S'.F S'.T S'.n S'.l=(jnS S S').l/\ unL S.R S.F S.T S.n S'.R S'.F S'.T S'.n=jnU S S'):=hid ⟨rfl,rfl⟩;rw [Hh.1,Hh.2] at Hi;obtain⟨i,Hp⟩:=zE ((jnS S S').l.length);obtain⟨b,Hq⟩:=zE ((jnU S S').length);rw [Hp,Hq] at Hi Hk;have K:=hid Hp;have Hj:=hid Hq;clear G H hc Hr Hm Ha Hp Hq Hh;go_wp2_with fail;refine Hi.mono ?_;rintro e w3 ⟨⟨A,r,E,Y,P,Q,rfl,jl,jf⟩,b3⟩;obtain⟨D,C⟩:=zE (w3.alloc (Uj #[Uf (Uc A) i r,Uf E b Y] 28));have b4:Bl w3 D:=C▸zO _ _;have X4:Bx2 D w3.heap.size (Uf (Uc A) i r) (Uf E b Y):=C▸Bx2.made _ _ _ _;have H3:Hid (SNc D w2.heap.size (Uc A) r E (jnS S S')):=hid (SNc.bw (QpX (by rw [K.out];exact jl) (by rw [Hj.out];exact jf)) b4);have Ht:=hid (Hf.trans ((Qaa b3 b4).mono Hf.size));have Hy:=hid (V.bw (Qaa b3 b4) V.lt);have Hg:=hid (Qhc (Uc A) E i b r Y D (oH Hk) (oH Hk));have H0:=hid X4;have H1:Hid (w.heap.size+3<=w2.heap.size):=hid (by have h1:=H6.out;have h2:=o.size;omega);obtain⟨x0,x1⟩:=X4.q2;have Hv:Hid ((decide (i<=1000) && decide (b<=1000))=jnF S S'):=hid (by rw [<- K.out,<- Hj.out];rfl);rw [Hv.out] at Hg;obtain⟨B,p⟩:=zE (jnF S S');have Hw:=hid p;rw [p] at Hg;have H2:Hid (i<=r/\ r<=9223372036854775807):=hid (by
    rcases jl.row.2 with ⟨e,_⟩|⟨g,cap,H9,e,_,_,H8,H7,_⟩
    ·cases e
    ·injection e with e1 e2 e3;rw [e3,e2];exact⟨H8,by unfold maxLen at H7;omega⟩)
   clear jl jf b3 b4 X4 l0 I l2 l3 p Hv;go_wp2_with fail;try rw [C]
   clear C;refine Hg.mono ?_;rintro e w5 ⟨rfl,Z⟩;have Hu:=hid (Ht.trans (Z.mono Ht.size));have y:=hid (Hy.bw Z Hy.lt);have H5:=hid (H0.bw Z H0.lt);have H4:=hid (H3.bw Z);clear x0 x1 Z;cases B with
   | false=>
    have j:Hid (jnB S S'=false/\ jnZ S S'=Sx.mt):=hid (by
     have e:jnB S S'=false:=(by unfold jnB;rw [Hw.out];simp);exact⟨e,QgY e⟩)
    obtain⟨r0,r1⟩:=y.q2;have f0:=y.f 0;have f1:=y.f 1;have z:=hid (y.set Ue Ue);go_wp2_with fail;obtain⟨M,O⟩:=z.q2;refine zF (v:=Ul #[Uo #[Ue,Ue],Un false]) (by simp [results,results12,go_sem,M,O]) ⟨Up,0,Up,0,by rw [j.1,j.2];rfl,?_,?_⟩
    ·rw [j.2];exact SNc.mt _ _ _ _
    ·exact⟨(Hu.setCell oS _).setCell oS _,by rw [j.2];exact⟨Uv _,oM⟩⟩
   | true=>
    have j:Hid (jnB S S'=true/\ jnZ S S'=jnS S S'):=hid (by
     have e:jnB S S'=true:=(by unfold jnB;rw [Hw.out,Hn.out,Hb.out];rfl);exact⟨e,QmV e⟩)
    obtain⟨r0,r1⟩:=y.q2;have f0:=y.f 0;have f1:=y.f 1;obtain⟨x0,x1⟩:=H5.q2;have z:=hid (y.set (Uf (Uc A) i r) (Uf E b Y));go_wp2_with fail;obtain⟨M,O⟩:=z.q2;refine zF (v:=Ul #[Uo #[Uf (Uc A) i r,Uf E b Y],Un true]) (by simp [results,results12,go_sem,M,O]) ⟨Uq (Ub A),r,E,Y,by rw [j.1,j.2,K.out,show (jnS S S').n=b from Hj.out],?_,?_⟩
    ·rw [j.2];exact H4.move (oH H1) (by simp [UL]) (fun q h1 h2=>by
      have:=H1.out;rw [zH _ _ _ _ oS,zH _ _ _ _ oS])
    ·exact⟨(Hu.setCell oS _).setCell oS _,by rw [j.2,K.out];exact H2⟩
open Go.Maps
theorem Qdo (R F T:Nat ->Int)(r f t:Int):∀n,Qb6 R F T r f t n=true ->∃k,k<n/\ R k=r/\ F k<=f/\ t<=T k
 | 0,h=>by simp [Qb6] at h
 | n+1,h=>by
  simp only [Qb6,Bool.or_eq_true,decide_eq_true_eq] at h;rcases h with h|h
  ·obtain⟨k,j,r⟩:=Qdo R F T r f t n h;exact⟨k,oM,r⟩
  ·exact⟨n,oM,h⟩
theorem QfN(h:StW R F T n l):∀x∈l,(0<=x.r/\ x.r<8)/\ (0<=x.q/\ x.q<=1000000000)/\ x.v.size<=200/\ x.p.length<=8:=fun x hx=>by
 obtain⟨i,hi,e⟩:=Qao.1 hx;have o:=h.1.1;obtain⟨k,t,y,z,g⟩:=Qdo R F T _ _ _ n (h.2.2.1 i hi).2.1;have:=(o k t).1;simp only [QaF,Bool.and_eq_true,decide_eq_true_eq] at this;have j:=(h.2.2.1 i hi).1;have m:=j.1.2.1;have u:=j.2.1;rw [e] at y z g m u;exact⟨oM,oM,u,m⟩
theorem Qiw {S S':Sx}(h:StW S.R S.F S.T S.n S.l)(h':StW S'.R S'.F S'.T S'.n S'.l):∀x∈(jnS S S').l,(0<=x.r/\ x.r<8)/\ (0<=x.q/\ x.q<=1000000000)/\ x.v.size<=200/\ x.p.length<=8:=fun x hx=>by
 rcases Qee x hx with j|j
 ·exact QfN h x j
 ·exact QfN h' x j.1
theorem Qjg{i:Nat}(h:¬i<l.length):(gL l i).p=[]:=by simp [gL,List.getD,h]
def EqS (A B:Sx):Prop:=A.l=B.l/\ A.n=B.n/\∀i,i<A.n ->A.R i=B.R i/\ A.F i=B.F i/\ A.T i=B.T i
theorem Bx3.up(h:Bx3 w b v0 v1 v2)(o:Obj):Bx3 (w.alloc o) b v0 v1 v2:=h.bw (zO w o) h.lt
def SmI (S:Sx):Prop:=S.Sm/\∀i,LfI (gL S.l i)
theorem Qc3:SmI Sx.mt:=⟨⟨by simp [Sx.mt],fun i=>by simp [Sx.mt,gL],by simp [Sx.mt]⟩,fun i=>by
 have e:gL Sx.mt.l i=⟨[],false,0,0,ByteArray.empty⟩:=by simp [gL,Sx.mt]
 rw [e];exact⟨oD,oD⟩⟩
theorem Qev {S:Sx}(h1:S.l.length<=1000)(h2:S.n<=1000)(h3:∀x∈S.l,(0<=x.r/\ x.r<8)/\ (0<=x.q/\ x.q<=1000000000)/\ x.v.size<=200/\ x.p.length<=8):SmI S:=by
 refine⟨⟨oM,fun i=> ?_,oM⟩,fun i=> ?_⟩
 ·by_cases hi:i<S.l.length
  ·have:=h3 _ (Qao.2 ⟨i,hi,rfl⟩);omega
  ·rw [Qjg hi];simp
 ·by_cases hi:i<S.l.length
  ·obtain⟨j,k,_⟩:=h3 _ (Qao.2 ⟨i,hi,rfl⟩);exact⟨wfI oM oM,wfI oM oM⟩
  ·have e:gL S.l i=⟨[],false,0,0,ByteArray.empty⟩:=(by simp [gL,List.getD,hi]);rw [e];exact⟨oD,oD⟩
theorem QhL (D Y:Sx):SmI (jnZ D Y):=by
 cases h:jnB D Y with
 | false=>rw [QgY h];exact Qc3
 | true=>
  rw [QmV h];unfold jnB jnF at h;simp only [Bool.and_eq_true,decide_eq_true_eq] at h;exact Qev h.2.1 h.2.2 (fun x hx=>Qiw (Qd9 h.1.1).w (Qd9 h.1.2).w x hx)
structure SOw (w:Ur)(lo hi:Nat)(a x:Option Us)(d:Nat)(S:Sx):Prop where
 nc:∀w':Ur,w.heap.size<=w'.heap.size ->(∀q,lo<=q ->q<hi ->w'.heap[q]? =w.heap[q]?) ->SCt w' a x S
 hl:lo<=hi/\ hi<=w.heap.size
theorem SOw.ct{S:Sx}(h:SOw w lo hi a x d S):SCt w a x S:=h.nc w zL (fun _ _ _=>rfl)
theorem SOw.same{S:Sx}(h:SOw w lo hi a x d S)(hs:w.heap.size<=w'.heap.size)(hq:∀q,lo<=q ->q<hi ->w'.heap[q]? =w.heap[q]?):SOw w' lo hi a x d S:=
 ⟨fun w2 h1 h2=>h.nc w2 (Uw hs h1) (fun q q1 q2=>(h2 q q1 q2).trans (hq q q1 q2)),h.hl.1,Uw h.hl.2 hs⟩
theorem SOw.bw{S:Sx}(h:SOw w lo hi a x d S)(hb:Bl w w'):SOw w' lo hi a x d S:=
 h.same hb.size (fun q _ h2=>hb.block q (Ut h2 h.hl.2))
theorem SOw.set{S:Sx}(h:SOw w lo hi a x d S)(q:Us)(u:Value)(hq:q.block<lo \/hi<=q.block):SOw (w.setCell q u) lo hi a x d S:=
 h.same (by simp [UL]) (fun p h1 h2=>zH _ _ _ _ oM)
theorem SOw.at{S:Sx}(h:SOw w lo hi a x d S):SAt w a x S:=⟨h.ct.lf.seg,h.ct.rn⟩
theorem SOw.mt (w:Ur)(S:Sx)(hl:S.l.length=0)(hn:S.n=0)(lo hi:Nat)(h:lo<=hi/\ hi<=w.heap.size)(a x:Option Us)(d:Nat):SOw w lo hi a x d S:=
 ⟨fun _ _ _=>⟨.inl hl,.inl hn⟩,h⟩
theorem SOw.wide{hi':Nat}{S:Sx}(h:SOw w lo hi a x d S)(h1:lo'<=lo)(h2:hi<=hi')(h3:hi'<=w.heap.size):SOw w lo' hi' a x d S:=
 ⟨fun w2 k1 k2=>h.nc w2 k1 (fun q q1 q2=>k2 q oM oM),oH h.hl,h3⟩
def QlL (n:Nat)(o:Option (Nat×Nat)):Value:=Uo #[.map (mF o),.map (mS o),.map (Uq n)]
def JQ (J:List Lf)(z:List Ky)(c:Nat)(w:Ur)(e:Ending)(w':Ur):Prop:=(∃x0 N',e=Ui (Uo #[.map (Uq x0.1),.map (Uq x0.2)])/\ JF w' w.heap.size J z N' c x0)/\ Bl w w'
def Qn9 (v0:Ur)(n:Nat)(h:Dt ->Bool):Prop:=∀w,Bl v0 w ->∀r q kl,keyOf prog 83 (dtV (r,q))=Uq kl ->Cl 140 #[.map (Uq n),Uo #[Ud r,Ud q]] w fun e w''=>e=Ui (Un (h (r,q)))/\ Bl w w''
structure JH (v0:Ur)(Na Nb:List Ky ->Option (Nat×Nat))(MA MB:List Ky ->Dt ->Option ByteArray)(ca cb na nb:Nat)(hA hB:Dt ->Bool)(J:List Lf):Prop where
 ta:Tre v0 0 Na MA ca
 tb:Tre v0 0 Nb MB cb
 ha:Qn9 v0 na hA
 hb:Qn9 v0 nb hB
 hJ:∀z,kmF (MB z) (MA z) hA (kmF (MA z) (MB z) hB (fun _=>Up))=Mk J J.length z
 hAh:∀z y,Ah J (z++[y]) ->Na (z++[y])≠Up \/Nb (z++[y])≠Up
theorem MO.ltv {α β:Type}{kv:α ->Value}{vo:Option β ->Value}{k:Nat}{f:α ->Option β}(h:MO w t kv vo mo c f)(hk:w.heap.size<=k):mo≠Uq k:=fun e=>by have:=h.lt k e;omega
theorem Rng.nomap {α β:Type}{kv:α ->Value}{vo:Option β ->Value}{r cnt:Nat}{f:α ->Option β}{ds:List α}(h:Rng w t kv vo mo r c f ds cnt):∀k j,w.heap[r]? ≠Uq (.map k j):=by
 intro k j e;cases mo with
 | none=>rw [h.1] at e;cases e
 | some b=>
  obtain⟨D,p,⟨v,u,E,A,q,o,F,i,g,m,s⟩,y,z⟩:=h;rw [m] at e;cases e
theorem QhK {v0:Ur}{Na Nb:List Ky ->Option (Nat×Nat)}{MA MB:List Ky ->Dt ->Option ByteArray}{ca cb na nb:Nat}{hA hB:Dt ->Bool}(H:JH v0 Na Nb MA MB ca cb na nb hA hB J)(z:List Ky)(c':Nat)(hc:ca+cb<=c')(hc2:c'+(ca+cb)<=1048576)
  (hIH:∀y,(Na (z++[y])≠Up \/Nb (z++[y])≠Up) ->∀w,Bl v0 w ->Cl 190 #[QlL na (Na (z++[y])),QlL nb (Nb (z++[y]))] w (JQ J (z++[y]) c' w))
  (w:Ur) (hw:Bl v0 w):
  Cl 190 #[QlL na (Na z),QlL nb (Nb z)] w (JQ J z (c'+(ca+cb)) w):=by
 have Gi:=hid (H.ta.mo_marks z);have Gj:=hid (H.tb.mo_marks z);have Ga:=hid (H.ta.mo_kids z);have Gv:=hid (H.tb.mo_kids z);have Kg:=hid (fun(s:ByteArray)(k:Int)(I:Lit)(w:Ur)(hw:Bl v0 w)(P:keyOf prog 174 (Qa9 (s,k))=Uq I)=>Qmk z s k (Uq na) 0 ca Na MA w I P (H.ta.bw hw));have Kh:=hid (fun(s:ByteArray)(k:Int)(I:Lit)(w:Ur)(hw:Bl v0 w)(P:keyOf prog 174 (Qa9 (s,k))=Uq I)=>Qmk z s k (Uq nb) 0 cb Nb MB w I P (H.tb.bw hw));have Ko:=hid hIH;have HH:=hid H;have HV:=hid hw;have HC:=hid (And.intro hc hc2);unfold QlL at Kg Kh Ko ⊢;obtain⟨E,K7⟩:=zE (mF (Na z));obtain⟨X,K8⟩:=zE (mS (Na z));obtain⟨M,K9⟩:=zE (mF (Nb z));obtain⟨g,Ja⟩:=zE (mS (Nb z));rw [K7,K8] at Kg ⊢;rw [K9,Ja] at Kh ⊢;rw [K8] at Gi;rw [Ja] at Gj;rw [K7] at Ga;rw [K9] at Gv;clear K7 K8 K9 Ja H hIH hw hc hc2;obtain⟨W,hW⟩:=zE (((w.alloc (Uj #[.map E,.map X,.map (Uq na)] 128)).alloc (Uj #[.map M,.map g,.map (Uq nb)] 128)).alloc (Uj #[.map Up,.map Up] 124));have B0:Bl w W:=hW▸(Qad _ _ _).alloc oS _;have X0:Bx3 W w.heap.size (.map E) (.map X) (.map (Uq na)):=by
  rw [<- hW];exact((Bx3.made w _ _ _ _).bw (zO _ _) (Bx3.made w _ _ _ _).lt).bw (zO _ _) oS
 have X1:Bx3 W (w.heap.size+1) (.map M) (.map g) (.map (Uq nb)):=by
  rw [<- hW];have:=Bx3.made (w.alloc (Uj #[.map E,.map X,.map (Uq na)] 128)) (.map M) (.map g) (.map (Uq nb)) 128;exact(by simpa using this:Bx3 _ (w.heap.size+1) _ _ _).bw (zO _ _) oP
 have X2:Bx2 W (w.heap.size+1+1) (.map Up) (.map Up):=by
  rw [<- hW];simpa using Bx2.made ((w.alloc (Uj #[.map E,.map X,.map (Uq na)] 128)).alloc (Uj #[.map M,.map g,.map (Uq nb)] 128)) (.map Up) (.map Up) 124
 have HX:=hid (And.intro X0 (And.intro X1 X2));have Kl:=hid B0;have Js:Hid (W.heap.size=w.heap.size+3):=hid (hW▸oP);clear B0 X0 X1 X2;go_enter func190,ntmps190;go_wp2_with fail;try rw [hW]
 clear hW;refine(Qel W).mono ?_;rintro e w1 ⟨s,s',rfl,Jl,hs,Ju,m1,m2,Jk⟩;obtain⟨x0,rfl,rfl⟩:∃x0:Nat×Nat,x0.1=s/\ x0.2=s':=⟨(s,s'),rfl,rfl⟩;obtain⟨w2,G5⟩:=zE (w1.alloc (Uj #[.map (Uq x0.1),.map (Uq x0.2)] 124));have b2:Bl w1 w2:=G5▸zO _ _;have Gg:=Qaa Jk b2;have Gy:JB w2 w.heap.size w1.heap.size E X (Uq na) M g (Uq nb) x0:=⟨HX.1.bw Gg HX.1.lt,HX.2.1.bw Gg HX.2.1.lt,HX.2.2.bw Gg HX.2.2.lt,G5▸Bx2.made _ _ _ _⟩;have K4:Hid (Bl v0 W):=hid (HV.trans (Kl.mono HV.size));have V2:Bl v0 w2:=K4.trans (Gg.mono K4.size);have Jh:=hid (Qa0.same m1 (b2.block _ m1.lt));have i:Hid (x0.1<w1.heap.size/\ x0.2<w1.heap.size/\ x0.1≠x0.2/\ w.heap.size+3<=x0.1/\ w.heap.size+3<=x0.2/\ v0.heap.size<=x0.1/\ v0.heap.size<=x0.2):=hid (by
  have o:=Js.out;have h2:=K4.size;exact⟨m1.lt,m2.lt,Jl,oM,oM,oM,oM⟩)
 have Gk:Hid (X≠Uq x0.2/\ g≠Uq x0.2/\ E≠Uq x0.1/\ M≠Uq x0.1):=hid ⟨Gi.ltv i.2.2.2.2.2.2,Gj.ltv i.2.2.2.2.2.2,Ga.ltv i.2.2.2.2.2.1,Gv.ltv i.2.2.2.2.2.1⟩;have Gw:=hid (QeQ E X M g (Uq x0.1) (Uq na) x0.2 nb ca cb 0 (MA z) (MB z) (fun _=>Up) hB w2 (Gi.bw V2 (fun b e=>Gi.lt b e)) (Gj.bw V2 (fun b e=>Gj.lt b e)) (Qa0.same m2 (b2.block _ m2.lt)) Gk.1 Gk.2.1 (oH HC)
  (fun w' hg=>HH.hb w' (V2.grown hg V2.size (fun k e=>by cases e;exact i.2.2.2.2.2.2))))
 obtain⟨p0,p1,p2⟩:=Gy.a.q3;obtain⟨p3,p4,p5⟩:=Gy.b.q3;obtain⟨p6,p7⟩:=Gy.j.q2;have Gt:=hid Gy;have K1:=hid V2;have Km:=hid (Kl.trans (Gg.mono Kl.size));have Gb:Hid (w1.heap.size<w2.heap.size):=hid (G5▸oP);clear Gy V2 b2 Gg Jl hs Ju m1 m2 Jk;go_wp2_with fail;try rw [G5]
 clear G5;refine Gw.mono ?_;rintro e w3 ⟨rfl,m3,g3⟩;have nr:∀k,Uq x0.2=Uq k ->k≠w.heap.size/\ k≠w.heap.size+1/\ k≠w.heap.size+1+1/\ k≠w1.heap.size:=fun k e=>by
  have o:=i.out;injection e with e;omega
 have Gz:=Gt.gr g3 nr;have V3:Bl v0 w3:=K1.grown g3 K1.size (fun k e=>by cases e;exact i.2.2.2.2.2.2);have Gx:=hid (QeQ M g E X (Uq x0.1) (Uq nb) x0.2 na cb ca (0+ca) (MB z) (MA z) (kmF (MA z) (MB z) hB (fun _=>Up)) hA w3 (Gj.bw V3 (fun b e=>Gj.lt b e)) (Gi.bw V3 (fun b e=>Gi.lt b e)) m3 Gk.2.1 Gk.1 (oH HC)
  (fun w' hg=>HH.ha w' (V3.grown hg V3.size (fun k e=>by cases e;exact i.2.2.2.2.2.2))))
 clear p0 p1 p2 p3 p4 p5 p6 p7;obtain⟨p0,p1,p2⟩:=Gz.a.q3;obtain⟨p3,p4,p5⟩:=Gz.b.q3;obtain⟨p6,p7⟩:=Gz.j.q2;have Gu:=hid Gz;have K2:=hid V3;have Jf:=hid g3;have Jp:=hid nr;clear Gz V3 m3 g3 Gw nr;go_wp2_with fail;refine Gx.mono ?_;rintro e Y ⟨rfl,m4,g4⟩;have K5:=Gu.gr g4 Jp;have V4:Bl v0 Y:=K2.grown g4 K2.size (fun k e=>by cases e;exact i.2.2.2.2.2.2);have Kk:=Jf.trans g4;have K3:Hid (Bl w Y):=hid (Km.grown Kk Km.size (fun k e=>by have:=i.out;cases e;omega));have Ke:Hid (w1.heap.size<Y.heap.size):=hid (Ut Gb Kk.size);have Jg:Hid (JT Y w.heap.size J z (fun _=>False) (fun r=>if r=[] then Uq x0 else Up) c' x0):=hid ((JT.start (Qa0.same Jh (Kk.block _ (Nat.lt_trans i.1 Gb) (fun e=>i.2.2.1 (by injection e)))) (by rw [<- HH.hJ z];exact m4) i.2.2.1 (oH i)).mono (oH HC));clear p0 p1 p2 p3 p4 p5 p6 p7;have p0:=K5.a.c0;have Kq:=hid K5;have Ki:=hid V4;have Kr:=hid (Ga.bw V4 (fun b e=>Ga.lt b e));have Ji:Hid (∀k,Uq x0.1=Uq k ->k≠w.heap.size/\ k≠w.heap.size+1/\ k≠w.heap.size+1+1/\ k≠w1.heap.size):=hid (fun k e=>by
  have o:=i.out;injection e with e;omega)
 have Kf:Hid (w.heap.size<=Y.heap.size):=hid K3.size;have Jx:Hid (∀b,E=Uq b ->b<v0.heap.size):=hid (fun b e=>Ga.lt b e);have Jy:Hid (∀b,M=Uq b ->b<v0.heap.size):=hid (fun b e=>Gv.lt b e);clear K5 V4 m4 g4 Kk Gx Jf K1 K2 Gt Gu Jh Km Gb;go_wp2_with (at_range;refine Qbi _ rfl _ 121 rfl 174 124 Qa1 underlying121 Qa9 Qbl E ca (fun y=>Na (z++[y])) rfl Kr ?_;intro w0 K6 Ho Hv Jc);have Gp:Hid (Y.grownBy w0 (Uq x0.1)):=hid (Hv.but _);have Gs:Hid (JT w0 w.heap.size J z (fun u=>u∈([]:List Ky)) (fun r=>if r=[] then Uq x0 else Up) (c'+([]:List Ky).length) x0):=hid ((Jg.kept' (r:=Y.heap.size) (Hv.but _) (fun es cl e=>oH ((Array.getElem?_eq_some_iff.1 e).1))).congr (fun u=>oP));have Hh:=hid (Kq.gr Hv (fun k e=>by cases e));clear Hv Jc Jg p0;try go_frame
 go_loopw [] (fun wr=>∃(p:List Ky) (Ge:Nat) (N:List Ky ->Option (Nat×Nat)),Rng wr 174 Qa9 Qbl E Y.heap.size ca (fun y=>Na (z++[y])) p Ge/\ Hid (JT wr w.heap.size J z (fun u=>u∈p) N (c'+p.length) x0)/\ Hid (JB wr w.heap.size w1.heap.size E X (Uq na) M g (Uq nb) x0)/\ Hid (Y.grownBy wr (Uq x0.1))) (fun wr=>wr.rangeLeft (E.getD 0) Y.heap.size);case atStart=>exact⟨[],_,_,Ho,Gs,Hh,Gp⟩
 case round=>
  clear Ho Gs Gp Hh;obtain⟨p,Ge,N,Hx,Gh,R,H1⟩:=hrel;have Ha:=hid Hx;go_wp2_with (at_next;refine Qbu _ rfl _ rfl 174 Qa1 Qa9 (fun _ _=>Qb7) (fun key I P=>QcY P) Qbl E Y.heap.size ca (fun y=>Na (z++[y])) p Ge rfl Hx ?_ ?_)
  ·intro P;have Kt:=hid P;have Je:Hid (p.length<=ca):=hid (oH Ha.len);obtain⟨V,hV⟩:∃V,V=wr:=⟨_,rfl⟩;subst hV;have V5:Bl v0 V:=Ki.grown H1 Ki.size (fun k e=>by have:=i.out;cases e;omega);have Jj:=hid V5;have Gd:Hid (Bl w V):=hid (K3.grown H1 K3.size (fun k e=>by have:=i.out;cases e;omega));have Kz:Hid (w1.heap.size<V.heap.size):=hid (Ut Ke H1.size);have K0:Hid (w.heap.size<=V.heap.size):=hid Gd.size;have Ks:=hid (Gv.bw V5 (fun b e=>Gv.lt b e));have p0:=R.b.c0;clear P Hx V5 Ha Kf;go_wp2_with (at_range;refine Qbi _ rfl _ 121 rfl 174 124 Qa1 underlying121 Qa9 Qbl M cb (fun y=>Nb (z++[y])) rfl Ks ?_;intro w0 K6 Ho Hv Jc);have Gp:Hid (V.grownBy w0 (Uq x0.1)):=hid (Hv.but _);have Gs:Hid (JT w0 w.heap.size J z (fun u=>u∈p \/u∈([]:List Ky)) N (c'+p.length+([]:List Ky).length) x0):=hid ((Gh.kept' (r:=V.heap.size) (Hv.but _) (fun es cl e=>oH ((Array.getElem?_eq_some_iff.1 e).1))).congr (fun u=>oP));have Hh:=hid (R.gr Hv (fun k e=>by cases e));clear Hv Jc p0;try go_frame
   clear H1 Gh R;go_loopw [] (fun wr=>∃(S:List Ky) (Ge:Nat) (N:List Ky ->Option (Nat×Nat)),Rng wr 174 Qa9 Qbl M V.heap.size cb (fun y=>Nb (z++[y])) S Ge/\ Hid (JT wr w.heap.size J z (fun u=>u∈p \/u∈S) N (c'+p.length+S.length) x0)/\ Hid (JB wr w.heap.size w1.heap.size E X (Uq na) M g (Uq nb) x0)/\ Hid (V.grownBy wr (Uq x0.1))) (fun wr=>wr.rangeLeft (M.getD 0) V.heap.size);case atStart=>exact⟨[],_,_,Ho,Gs,Hh,Gp⟩
   case round=>
    clear Ho Gs Gp Hh;obtain⟨S,Ge,N,Hx,Gh,R,H1⟩:=hrel;have Ha:=hid Hx;go_wp2_with (at_next;refine Qbu _ rfl _ rfl 174 Qa1 Qa9 (fun _ _=>Qb7) (fun key I P=>QcY P) Qbl M V.heap.size cb (fun y=>Nb (z++[y])) S Ge rfl Hx ?_ ?_)
    ·intro P;have HE:Hid (JF wr w.heap.size J z N (c'+(ca+cb)) x0):=hid ((Gh.full (fun y hy=>by
      rcases HH.hAh z y hy with h|h
      ·exact .inl ((Kt.2 y).2 h)
      ·exact .inr ((P.2 y).2 h))).mono (by have o:=Ha.len;have h2:=Je.out;omega))
     have Jn:Hid (Bl w wr):=hid (Gd.grown H1 Gd.size (fun k e=>by have:=i.out;cases e;omega));obtain⟨r0,r1⟩:=R.r.q2;have f0:=R.r.f 0;have f1:=R.r.f 1;obtain⟨j0,j1⟩:=R.j.q2;have Jm:=hid (R.r.set (.map (Uq x0.1)) (.map (Uq x0.2)));clear P Hx;go_wp2_with fail;obtain⟨s0,s1⟩:=Jm.q2;refine zF (v:=Uo #[.map (Uq x0.1),.map (Uq x0.2)]) (by simp [results,results190,go_sem,s0,s1]) ⟨⟨x0,N,rfl,?_⟩,?_⟩
     ·have hb:=R.r;exact⟨(HE.tre.set _ hb.c0).set (v:=.map Up) _ (by simp [World.cell?_setCell_other,hb.c1]),HE.root,HE.there⟩
     ·exact(Jn.setCell oS _).setCell oS _
    ·intro q m Jv Jw L Gf bm G3 G0 G4 I G1 Hp Hl Hw Jd Jb;have Kx:Hid (Na (z++[(q,m)])≠Up \/Nb (z++[(q,m)])≠Up):=hid (Or.inr (by rw [show Nb (z++[(q,m)])=_ from G0];simp));have H2:=hid G1;have Kn:Hid (c'+p.length+S.length<1048576):=hid (by have o:=Ha.len;have h2:=HC.out;have h3:=Je.out;omega);have Kd:Hid (∀t,Rng t 174 Qa9 Qbl M V.heap.size cb (fun y=>Nb (z++[y])) (S++[(q,m)]) Gf ->t.rangeLeft (M.getD 0) V.heap.size<wr.rangeLeft (M.getD 0) V.heap.size):=hid (fun t h9=>by
      have o:=Ha.out;rw [G3] at h9 o ⊢;show t.rangeLeft bm _<wr.rangeLeft bm _;rw [h9.left_eq,o.left_eq];exact Hl)
     have Jq:=hid G4;have Gq:Hid (V.grownBy L (Uq x0.1)):=hid (H1.andThen Hw (fun j e=>by cases e;exact .inl zL));have Kc:=hid (Gh.kept' Hw Ha.nomap);have H8:=hid (R.gr Hw (fun k e=>by have o:=Kz.out;have h2:=i.out;cases e;omega));have Hq:=hid Hp;obtain⟨Hz,G6⟩:=zE (L.alloc (Uj #[Um q,Ud m] 174));have Kj:Bl L Hz:=G6▸zO _ _;have H9:Hid (Bx2 Hz L.heap.size (Um q) (Ud m)):=hid (G6▸Bx2.made _ _ _ _);have Hi:=hid (H8.bw Kj);have H4:Hid (V.grownBy Hz (Uq x0.1)):=hid (Gq.trans (QbJ Kj _));have Gc:Hid (Bl v0 Hz):=hid (Jj.grown H4 Jj.size (fun k e=>by have:=i.out;cases e;omega));have G2:=(Ga.bw Gc (fun b e=>Ga.lt b e)).look_ok Qa1 underlying121 (QdJ Hz) (x:=(q,m)) H2;have q0:=Hi.a.c0;obtain⟨q1,q2⟩:=H9.q2;have Gl:=hid Kj;clear G0 G4 G1 Hx Hp Hl Hw Jd G3 Kj;dsimp only [Qa9,Qbl] at Jb G2 ⊢;cases hna:Na (z++[(q,m)]) with
     | some y9=>
      rw [hna] at G2;obtain⟨A,Hy⟩:=zE (Hz.alloc (Uj #[.map (Uq y9.1),.map (Uq y9.2)] 124));have U:Bl Hz A:=Hy▸zO _ _;have B6:=Qaa Gl U;have Hr:=hid (Hq.same (fun b e=>B6.block b (Hq.mlt b e)) (B6.block _ Hq.lt));have H7:=hid (Kc.bw B6);have Hc:=hid (Hi.bw U);have H0:Hid (V.grownBy A (Uq x0.1)):=hid (H4.trans (QbJ U _));have Jo:Hid ((q,m)∈p):=hid ((Kt.2 _).2 (by show Na (z++[(q,m)])≠Up;rw [hna];simp));clear hna U B6;dsimp only [YP] at G2;go_wp2_with fail;try rw [Hy]
      go_roundw;case rel=>exact⟨_,_,N,Hr,hid ((H7.congr (fun u=>by
       constructor
       ·rintro(h|h)
        ·exact .inl h
        ·exact .inr (by simp [h])
       ·rintro(h|h)
        ·exact .inl h
        ·rcases List.mem_append.1 h with h|h
         ·exact .inr h
         ·rw [List.mem_singleton.1 h];exact .inl Jo)).mono oP),Hc,H0⟩
      case measure=>exact Kd A Hr
     | none=>
      rw [hna] at G2;have Kw:Hid (¬((q,m)∈p \/(q,m)∈S)):=hid (fun h=>h.elim (fun h=>(Kt.2 _).1 h hna) Jq);obtain⟨A,Hy⟩:=zE (Hz.alloc (Uj #[.map Up,.map Up] 124));have U:Bl Hz A:=Hy▸zO _ _;have B6:=Qaa Gl U;have Hr:=hid (Hq.same (fun b e=>B6.block b (Hq.mlt b e)) (B6.block _ Hq.lt));have H7:=hid (Kc.bw B6);have Hc:=hid (Hi.bw U);have Hs:=hid (H9.bw U H9.lt);have H0:Hid (V.grownBy A (Uq x0.1)):=hid (H4.trans (QbJ U _));have C:Hid (Bl v0 A):=hid (Gc.trans (U.mono Gc.size));have Kv:Hid (∀k,Uq x0.1=Uq k ->k≠L.heap.size):=hid (fun k e=>by have o:=i.out;have h2:=Kz.out;have h3:=Gq.size;cases e;omega);have Ku:Hid (∀b,M=Uq b ->Uq x0.1≠Uq b):=hid (fun b e h=>Gk.2.2.2 (by rw [e,h]));have Kp:Hid (Uq x0.1≠Uq V.heap.size):=hid (fun e=>by have o:=i.out;have h2:=Kz.out;injection e with e;omega);have Jr:=hid Hy;clear U B6 hna Hy;dsimp only [YP] at G2;have Kf:=K0;obtain⟨G8,Hd⟩:=zE (mF (Na (z++[(q,m)])));obtain⟨G9,He⟩:=zE (mS (Na (z++[(q,m)])));obtain⟨Ka,Hf⟩:=zE (mF (Nb (z++[(q,m)])));obtain⟨Kb,Hg⟩:=zE (mS (Nb (z++[(q,m)])));have Gm:Hid (∀w1,Bl A w1 ->Cl 218 #[Uo #[.map E,.map X,.map (Uq na)],Uo #[Um q,Ud m]] w1 (Rt w1 (Uo #[.map G8,.map G9,.map (Uq na)]))):=hid (fun w1 g=>by have:=Kg q m I w1 (C.trans (g.mono C.size)) H2;rw [Hd,He] at this;exact this);have Gn:Hid (∀w1,Bl A w1 ->Cl 218 #[Uo #[.map M,.map g,.map (Uq nb)],Uo #[Um q,Ud m]] w1 (Rt w1 (Uo #[.map Ka,.map Kb,.map (Uq nb)]))):=hid (fun w1 g=>by have:=Kh q m I w1 (C.trans (g.mono C.size)) H2;rw [Hf,Hg] at this;exact this);have Go:Hid (∀w1,Bl A w1 ->Cl 190 #[Uo #[.map G8,.map G9,.map (Uq na)],Uo #[.map Ka,.map Kb,.map (Uq nb)]] w1 (JQ J (z++[(q,m)]) c' w1)):=hid (fun w1 g=>by have:=Ko (q,m) Kx w1 (C.trans (g.mono C.size));rw [Hd,He,Hf,Hg] at this;exact this);have T:Hid (∀w',Bl A w' ->(w'.cell? (Ub w1.heap.size)=Uq (.map (Uq x0.1))/\ w'.cell? (Ua w1.heap.size 1)=Uq (.map (Uq x0.2))/\ w'.cell? (Ub L.heap.size)=Uq (Um q)/\ w'.cell? (Ua L.heap.size 1)=Uq (Ud m)/\ w'.cell? (Ub w.heap.size)=Uq (.map E)/\ w'.cell? (Ua w.heap.size 1)=Uq (.map X)/\ w'.cell? (Ua w.heap.size 2)=Uq (.map (Uq na))/\ w'.cell? (Ua (w.heap.size+1) 0)=Uq (.map M)/\ w'.cell? (Ua (w.heap.size+1) 1)=Uq (.map g)/\ w'.cell? (Ua (w.heap.size+1) 2)=Uq (.map (Uq nb)))):=hid (fun w1 g=>(Hc.bw g).sees (Hs.bw g Hs.lt));have Gr:Hid (∀t Q G,Bl A t ->∀B,JF t B J (z++[(q,m)]) G c' Q ->Cl 217 #[Uo #[.map (Uq x0.1),.map (Uq x0.2)],Uo #[Um q,Ud m],Uo #[.map (Uq Q.1),.map (Uq Q.2)]] t fun e w'=>e=Ui (Ul #[])/\ t.grownBy w' (Uq x0.1)/\
        (Qc7 (fun u=>G [u]) (Mk J J.length (z++[(q,m)])) ->Qa0 w' 174 Qa9 Qbl x0.1 (c'+p.length+S.length+1) (QbX (fun u=>N [u]) (q,m) (Uq Q)))/\ (¬Qc7 (fun u=>G [u]) (Mk J J.length (z++[(q,m)])) ->Bl t w')):=hid (fun t Q G b9 B o=>by
       have hj:=H7.bw b9;have Hu:=o.mono (show c'<=c'+p.length+S.length by omega);exact Qo5 x0 Q q m (c'+p.length+S.length) (fun u=>N [u]) (fun u=>G [u]) (Mk J J.length (z++[(q,m)])) t I H2 (hj.tre.kids [] x0 hj.root) (Hu.tre.kids [] Q Hu.root) ((Hu.tre.marks [] Q Hu.root).ext fun d=>oP) Kn)
      clear Hd He Hf Hg;go_wp2_with fail;rw [Jr.out];refine zS T (fun qh=> ?_);refine tZ 0 55 ?_;refine tZ 1 56 ?_;refine tZ 2 57 ?_;refine tZ 3 58 ?_;refine tZ 5 60 ?_;refine tZ 6 61 ?_;refine cZ 4 ?_;intro K O;go_simp;refine(Gm _ zI.drew).mono ?_;rintro e w7 ⟨rfl,b7⟩;have Ht:Bl A w7:=⟨b7.os,b7.tape,b7.output,b7.size,b7.block⟩;refine O.out _ _ (T _ Ht) (fun qh=> ?_);clear O K;try simp only [zP]
      refine cZ 7 ?_;intro K O;go_simp;refine(Gn _ Ht).mono ?_;rintro e w8 ⟨rfl,b8⟩;have D:=Qaa Ht b8;refine O.out _ _ (T _ D) (fun qh=> ?_);clear O K;try simp only [zP]
      refine cZ 8 ?_;intro K O;go_simp;refine(Go _ D).mono ?_;rintro e t ⟨⟨Q,G,rfl,o⟩,b9⟩;have Z:=Qaa D b9;refine O.out _ _ (T _ Z) (fun qh=> ?_);clear O K;try simp only [zP]
      have H5:=hid o;clear o;refine cZ 9 ?_;intro K O;go_simp;refine(Gr t Q G Z _ H5).mono ?_;rintro e G7 ⟨rfl,F,Hm,Hn⟩;have Hb:=hid ((Hc.bw Z).gr F Ji);refine O.out _ _ (Hb.sees ((Hs.bw Z Hs.lt).gr F Kv)) (fun qh=> ?_);clear O K;try simp only [zP]
      refine zD ?_;obtain⟨Jt,Hk⟩:=(H7.bw D).round b9 (H5.mono (show c'<=c'+p.length+S.length by omega)) (Uw (Uw Kf H0.size) D.size) Kw F Hm Hn;have H3:Hid (V.grownBy G7 (Uq x0.1)):=hid ((H0.trans (QbJ Z _)).trans F);have Hj:=hid ((Hr.same (fun b e=>Z.block b (Hr.mlt b e)) (Z.block _ Hr.lt)).kept F Ku Kp);have H6:=hid Hk;clear qh b7 Ht b8 D b9 Z F Hm Hn Hk T Gm Gn Go Gr H5;go_wp2_with fail;go_roundw;case rel=>exact⟨_,_,_,Hj,hid (by simpa [UQ] using H6.congr (fun u=>by simp [or_assoc])),Hb,H3⟩
      case measure=>exact Kd G7 Hj
  ·intro q m Jv Jw L Gf bm G3 G0 G4 I G1 Hp Hl Hw Jd Jb;have Kx:Hid (Na (z++[(q,m)])≠Up \/Nb (z++[(q,m)])≠Up):=hid (Or.inl (by rw [show Na (z++[(q,m)])=_ from G0];simp));have Kw:Hid (¬(q,m)∈p):=hid G4;have H2:=hid G1;have Kn:Hid (c'+p.length<1048576):=hid (by have o:=Ha.len;have h2:=HC.out;omega);have Kd:Hid (∀t,Rng t 174 Qa9 Qbl E Y.heap.size ca (fun y=>Na (z++[y])) (p++[(q,m)]) Gf ->t.rangeLeft (E.getD 0) Y.heap.size<wr.rangeLeft (E.getD 0) Y.heap.size):=hid (fun t h9=>by
    have o:=Ha.out;rw [G3] at h9 o ⊢;show t.rangeLeft bm _<wr.rangeLeft bm _;rw [h9.left_eq,o.left_eq];exact Hl)
   have Gq:Hid (Y.grownBy L (Uq x0.1)):=hid (H1.andThen Hw (fun j e=>by cases e;exact .inl zL));have Kc:=hid (Gh.kept' Hw Ha.nomap);have H8:=hid (R.gr Hw (fun k e=>by have o:=Ke.out;have h2:=i.out;cases e;omega));have Hq:=hid Hp;obtain⟨A,Hy⟩:=zE (L.alloc (Uj #[Um q,Ud m] 174));have U:Bl L A:=Hy▸zO _ _;have Hs:Hid (Bx2 A L.heap.size (Um q) (Ud m)):=hid (Hy▸Bx2.made _ _ _ _);have Hr:=hid (Hq.same (fun b e=>U.block b (Hq.mlt b e)) (U.block _ Hq.lt));have H7:=hid (Kc.bw U);have Hc:=hid (H8.bw U);have H0:Hid (Y.grownBy A (Uq x0.1)):=hid (Gq.trans (QbJ U _));have C:Hid (Bl v0 A):=hid (Ki.grown H0 Ki.size (fun k e=>by have:=i.out;cases e;omega));have Kv:Hid (∀k,Uq x0.1=Uq k ->k≠L.heap.size):=hid (fun k e=>by have o:=i.out;have h2:=Ke.out;have h3:=Gq.size;cases e;omega);have Ku:Hid (∀b,E=Uq b ->Uq x0.1≠Uq b):=hid (fun b e h=>Gk.2.2.1 (by rw [e,h]));have Kp:Hid (Uq x0.1≠Uq Y.heap.size):=hid (fun e=>by have o:=i.out;have h2:=Ke.out;injection e with e;omega);clear G0 G4 G1 Hx Hp Hl Hw Jd G3 U;dsimp only [Qa9,Qbl] at Jb ⊢;obtain⟨G8,Hd⟩:=zE (mF (Na (z++[(q,m)])));obtain⟨G9,He⟩:=zE (mS (Na (z++[(q,m)])));obtain⟨Ka,Hf⟩:=zE (mF (Nb (z++[(q,m)])));obtain⟨Kb,Hg⟩:=zE (mS (Nb (z++[(q,m)])));have Gm:Hid (∀w1,Bl A w1 ->Cl 218 #[Uo #[.map E,.map X,.map (Uq na)],Uo #[Um q,Ud m]] w1 (Rt w1 (Uo #[.map G8,.map G9,.map (Uq na)]))):=hid (fun w1 g=>by have:=Kg q m I w1 (C.trans (g.mono C.size)) H2;rw [Hd,He] at this;exact this);have Gn:Hid (∀w1,Bl A w1 ->Cl 218 #[Uo #[.map M,.map g,.map (Uq nb)],Uo #[Um q,Ud m]] w1 (Rt w1 (Uo #[.map Ka,.map Kb,.map (Uq nb)]))):=hid (fun w1 g=>by have:=Kh q m I w1 (C.trans (g.mono C.size)) H2;rw [Hf,Hg] at this;exact this);have Go:Hid (∀w1,Bl A w1 ->Cl 190 #[Uo #[.map G8,.map G9,.map (Uq na)],Uo #[.map Ka,.map Kb,.map (Uq nb)]] w1 (JQ J (z++[(q,m)]) c' w1)):=hid (fun w1 g=>by have:=Ko (q,m) Kx w1 (C.trans (g.mono C.size));rw [Hd,He,Hf,Hg] at this;exact this);have T:Hid (∀w',Bl A w' ->(w'.cell? (Ub w1.heap.size)=Uq (.map (Uq x0.1))/\ w'.cell? (Ua w1.heap.size 1)=Uq (.map (Uq x0.2))/\ w'.cell? (Ub L.heap.size)=Uq (Um q)/\ w'.cell? (Ua L.heap.size 1)=Uq (Ud m)/\ w'.cell? (Ub w.heap.size)=Uq (.map E)/\ w'.cell? (Ua w.heap.size 1)=Uq (.map X)/\ w'.cell? (Ua w.heap.size 2)=Uq (.map (Uq na))/\ w'.cell? (Ua (w.heap.size+1) 0)=Uq (.map M)/\ w'.cell? (Ua (w.heap.size+1) 1)=Uq (.map g)/\ w'.cell? (Ua (w.heap.size+1) 2)=Uq (.map (Uq nb)))):=hid (fun w1 g=>(Hc.bw g).sees (Hs.bw g Hs.lt));have Gr:Hid (∀t Q G,Bl A t ->∀B,JF t B J (z++[(q,m)]) G c' Q ->Cl 217 #[Uo #[.map (Uq x0.1),.map (Uq x0.2)],Uo #[Um q,Ud m],Uo #[.map (Uq Q.1),.map (Uq Q.2)]] t fun e w'=>e=Ui (Ul #[])/\ t.grownBy w' (Uq x0.1)/\
     (Qc7 (fun u=>G [u]) (Mk J J.length (z++[(q,m)])) ->Qa0 w' 174 Qa9 Qbl x0.1 (c'+p.length+1) (QbX (fun u=>N [u]) (q,m) (Uq Q)))/\ (¬Qc7 (fun u=>G [u]) (Mk J J.length (z++[(q,m)])) ->Bl t w')):=hid (fun t Q G b9 B o=>by
    have hj:=H7.bw b9;have Hu:=o.mono (show c'<=c'+p.length by omega);exact Qo5 x0 Q q m (c'+p.length) (fun u=>N [u]) (fun u=>G [u]) (Mk J J.length (z++[(q,m)])) t I H2 (hj.tre.kids [] x0 hj.root) (Hu.tre.kids [] Q Hu.root) ((Hu.tre.marks [] Q Hu.root).ext fun d=>oP) Kn)
   clear Hd He Hf Hg;go_wp2_with fail;refine zS T (fun qh=> ?_);refine tZ 0 27 ?_;refine tZ 1 28 ?_;refine tZ 2 29 ?_;refine tZ 3 30 ?_;refine tZ 5 32 ?_;refine tZ 6 33 ?_;refine cZ 4 ?_;intro K O;go_simp;refine(Gm _ zI.drew).mono ?_;rintro e w7 ⟨rfl,b7⟩;have Ht:Bl A w7:=⟨b7.os,b7.tape,b7.output,b7.size,b7.block⟩;refine O.out _ _ (T _ Ht) (fun qh=> ?_);clear O K;try simp only [zP]
   refine cZ 7 ?_;intro K O;go_simp;refine(Gn _ Ht).mono ?_;rintro e w8 ⟨rfl,b8⟩;have D:=Qaa Ht b8;refine O.out _ _ (T _ D) (fun qh=> ?_);clear O K;try simp only [zP]
   refine cZ 8 ?_;intro K O;go_simp;refine(Go _ D).mono ?_;rintro e t ⟨⟨Q,G,rfl,o⟩,b9⟩;have Z:=Qaa D b9;refine O.out _ _ (T _ Z) (fun qh=> ?_);clear O K;try simp only [zP]
   have H5:=hid o;clear o;refine cZ 9 ?_;intro K O;go_simp;refine(Gr t Q G Z _ H5).mono ?_;rintro e G7 ⟨rfl,F,Hm,Hn⟩;have Hb:=hid ((Hc.bw Z).gr F Ji);refine O.out _ _ (Hb.sees ((Hs.bw Z Hs.lt).gr F Kv)) (fun qh=> ?_);clear O K;try simp only [zP]
   refine zD ?_;obtain⟨Jt,Hk⟩:=(H7.bw D).round b9 (H5.mono (show c'<=c'+p.length by omega)) (Uw (Uw Kf H0.size) D.size) Kw F Hm Hn;have H3:Hid (Y.grownBy G7 (Uq x0.1)):=hid ((H0.trans (QbJ Z _)).trans F);have Hj:=hid ((Hr.same (fun b e=>Z.block b (Hr.mlt b e)) (Z.block _ Hr.lt)).kept F Ku Kp);have H6:=hid Hk;clear qh b7 Ht b8 D b9 Z F Hm Hn Hk T Gm Gn Go Gr H5;go_wp2_with fail;go_roundw;case rel=>exact⟨_,_,_,Hj,hid (by simpa [UQ] using H6.congr (fun u=>oP)),Hb,H3⟩
   case measure=>exact Kd G7 Hj
theorem QeO {v0:Ur}{Na Nb:List Ky ->Option (Nat×Nat)}{MA MB:List Ky ->Dt ->Option ByteArray}{ca cb na nb:Nat}{hA hB:Dt ->Bool}{J:List Lf}(H:JH v0 Na Nb MA MB ca cb na nb hA hB J)(hd:∀p,(Na p≠Up \/Nb p≠Up) ->p.length<=8)(hc:10*(ca+cb)<=1048576):
  ∀d z,z.length+d=8 ->∀w,Bl v0 w ->Cl 190 #[QlL na (Na z),QlL nb (Nb z)] w (JQ J z ((d+2)*(ca+cb)) w)
 | 0,z,hz,w,hw=>by
  have:=QhK H z (ca+cb) zL oM (fun y hy=>absurd (hd _ hy) oS) w hw;rw [show (0+2)*(ca+cb)=ca+cb+(ca+cb) by omega];exact this
 | d+1,z,hz,w,hw=>by
  have e:(d+2)*(ca+cb)+(ca+cb)=(d+1+2)*(ca+cb):=by rw [show d+1+2=(d+2)+1 by omega,Nat.add_mul (d+2) 1,Nat.one_mul]
  have j:(d+1+2)*(ca+cb)<=10*(ca+cb):=UR _ oM;have k:1*(ca+cb)<=(d+2)*(ca+cb):=UR _ oM;rw [<- e];exact QhK H z ((d+2)*(ca+cb)) oM oM (fun y hy=>QeO H hd hc d (z++[y]) oS) w hw
theorem QnP (J:List Lf)(z:List Ky):cW J z<=J.length:=Yz _ _
theorem Qqe (J:List Lf)(z:List Ky):mW J z<=J.length:=Yz _ _
theorem Qmf (J:List Lf)(z:List Ky):∀ds:List Ky,(ds.map fun y=>cW J (z++[y])).sum<=ds.length*J.length
 | []=>Ux _
 | y::r=>by
  have j:=Qmf J z r;have k:=QnP J (z++[y]);simp only [UD,Vz,Vq,Nat.add_mul,Nat.one_mul];omega
structure TJ (w:Ur)(B:Nat)(J:List Lf)(N:List Ky ->Option (Nat×Nat))(c:Nat):Prop where
 tre:Tre w B N (fun r=>Mk J J.length r) c
 there:∀z y,(N (z++[y])).isSome=true↔Ah J (z++[y])
 dis:Dis J J.length
theorem JF.tj{N:List Ky ->Option (Nat×Nat)}(h:JF w B J [] N c x0)(hd:Dis J J.length):TJ w B J N c:=
 ⟨oU h.tre,fun z y=>by
  cases z with
  | nil=>simpa using h.there y []
  | cons u r=>simpa using h.there u (r++[y]),hd⟩
theorem TJ.bw{N:List Ky ->Option (Nat×Nat)}(h:TJ w B J N c)(hb:Bl w w'):TJ w' B J N c:=⟨h.tre.bw hb,h.there,h.dis⟩
theorem TJ.deep{N:List Ky ->Option (Nat×Nat)}(h:TJ w B J N c)(h8:∀x∈J,(Way x).length<=8):∀p,N p≠Up ->p.length<=8:=fun p hp=>by
 by_cases e:p=[]
 ·rw [e];simp
 ·obtain⟨z,y,rfl⟩:∃z y,p=z++[y]:=⟨p.dropLast,p.getLast e,(YA e).symm⟩;have j:(N (z++[y])).isSome=true:=by
   cases hv:N (z++[y]) with
   | none=>exact absurd hv hp
   | some v=>rfl
  obtain⟨x,m,k⟩:=(h.there z y).1 j;exact Uw k.length_le (h8 x m)
theorem Qgh {v0:Ur}{N:List Ky ->Option (Nat×Nat)}(H:TJ v0 B J N c)(hc:c<=1048576)(hJ:J.length<=1048576)(z:List Ky)(x:Nat×Nat)(hx:N z=Uq x)
  (hIH:∀y g,N (z++[y])=Uq g ->∀w,Bl v0 w ->Cl 192 #[Uo #[.map (Uq g.1),.map (Uq g.2)]] w (Rt w (Ud (cW J (z++[y])))))
  (w:Ur) (hw:Bl v0 w):
  Cl 192 #[Uo #[.map (Uq x.1),.map (Uq x.2)]] w (Rt w (Ud (cW J z))):=by
 have HT:=hid (H.bw hw);have HV:=hid hw;have HX:=hid hx;have HI:=hid hIH;obtain⟨W,I⟩:=zE (w.alloc (Uj #[.map (Uq x.1),.map (Uq x.2)] 124));have o:Bl w W:=I▸zO _ _;have X0:Bx2 W w.heap.size (.map (Uq x.1)) (.map (Uq x.2)):=I▸Bx2.made _ _ _ _;have Ht:=(HT.tre.bw o).marks z x hx;obtain⟨D,G⟩:=Ht;obtain⟨m,p⟩:=zE (mW J z);have Hs:∀ty,(Builtin.len_ #[122] ty #[.map (Uq x.2)]).run prog W=.ok (Ud (m:Nat)) W:=fun ty=>by rw [<- p,<- Qj6 H.dis G];exact G.own.len underlying122 ty
 have Hx:m<=1048576:=p▸Uw (Qqe J z) hJ;have HM:=hid p;have Hl:=hid ((HT.tre.bw o).kids z x hx);have F:=hid o;obtain⟨x0,g⟩:=X0.q2;have S:=hid (And.intro hc hJ);have Ho:=hid H.there;clear H hc hx hIH hw o X0 G p hJ;go_enter func192,ntmps192;go_wp2_with (at_range;refine Qbi _ rfl _ 121 rfl 174 124 Qa1 underlying121 Qa9 Qbl (Uq x.1) c (fun y=>N (z++[y])) rfl Hl ?_;intro w0 Hq Hc r Hv);have R:Hid (Bl W w0):=hid ⟨r.os,r.tape,r.output,r.size,fun k q=>r.block k q oP⟩;clear r Hv Hs x0 g I;try go_frame
 go_loopw [3] (fun t wr=>∃(j:List Ky) (Z T:Nat),t=Ud T/\ Rng wr 174 Qa9 Qbl (Uq x.1) W.heap.size c (fun y=>N (z++[y])) j Z/\ Hid (T=m+(j.map fun y=>cW J (z++[y])).sum)/\ Hid (Bl W wr)) (fun t wr=>wr.rangeLeft x.1 W.heap.size);case atStart=>exact⟨[],_,m,rfl,Hc,hid oP,R⟩
 case round=>
  clear Hc R;obtain⟨j,Z,T,rfl,s,Y,Q⟩:=hrel;have Ha:=hid s;go_wp2_with (at_next;refine Qbu _ rfl _ rfl 174 Qa1 Qa9 (fun _ _=>Qb7) (fun key kl q=>QcY q) Qbl (Uq x.1) W.heap.size c (fun y=>N (z++[y])) j Z rfl s ?_ ?_)
  ·intro q;have HE:Hid (T=cW J z):=hid (by
    rw [Y.out,Ql5 z j q.1 J (fun u hu y hp=>(q.2 y).2 (fun v=>by
     have:=(Ho z y).2 ⟨u,hu,hp⟩;rw [show N (z++[y])=Up from v] at this;cases this)),HM.out])
   clear q s;go_wp2_with fail;go_ret;exact⟨by have h:=HE.out;subst h;rfl,Qaa F Q⟩
  ·intro M E X C A He Hi Hu kl Hr Hd Hb Hj Hw Hh;have Hf:=hid (fun w1 (b1:Bl v0 w1)=>HI.out (M,E) (X,C) Hi w1 b1);obtain⟨n,v⟩:=zE (cW J (z++[(M,E)]));rw [v] at Hf;have k1:n<=1048576:=v▸Uw (QnP _ _) S.2;have k2:T<=1099512676352:=by
    have h1:=Qmf J z j;have h2:=Ha.len;have h3:=S.out;have h4:j.length*J.length<=1048576*1048576:=Nat.mul_le_mul oM oM;rw [Y.out];omega
   have Hn:Hid (T+n=m+((j++[(M,E)]).map fun y=>cW J (z++[y])).sum):=hid (by rw [Y.out];simp [v];omega);have Hm:Hid (∀w9,Rng w9 174 Qa9 Qbl (Uq x.1) W.heap.size c (fun y=>N (z++[y])) (j++[(M,E)]) He ->w9.rangeLeft x.1 W.heap.size<wr.rangeLeft x.1 W.heap.size):=hid (fun w9 h9=>by
    rw [h9.left_eq,Ha.left_eq];exact Hb)
   have P:Hid (Bl W A):=hid (Q.grown Hj Q.size (fun k e=>by cases e;exact Uv _));have U:=hid Hd;obtain⟨L,K⟩:=zE (A.alloc (Uj #[.map (Uq X),.map (Uq C)] 124));have i:Bl A L:=K▸zO _ _;have K6:Bx2 L A.heap.size (.map (Uq X)) (.map (Uq C)):=K▸Bx2.made _ _ _ _;have O:=hid (P.trans (i.mono P.size));have Hp:Hid (Bl v0 L):=hid (HV.trans ((Qaa F O).mono HV.size));have V:=hid (U.same (fun b e=>i.block b (U.mlt b e)) (i.block _ U.lt));obtain⟨c0,c1⟩:=K6.q2;clear Hi Hu Hr s Hd Hb Hj Hw i K6 v;dsimp only [Qa9,Qbl] at Hh ⊢;go_wp2_with fail;refine(Hf _ Hp).mono ?_;rintro e w7 ⟨rfl,b7⟩;have Hk:=hid (O.trans (b7.mono O.size));have Hg:=hid (V.same (fun b e=>b7.block b (V.mlt b e)) (b7.block _ V.lt));clear b7 c0 c1 Hh K;go_wp2_with fail;go_roundw;case rel=>exact⟨_,_,T+n,oN,Hg,Hn,Hk⟩
   case measure=>exact Hm w7 Hg
theorem Ql9 {v0:Ur}{B c:Nat}{J:List Lf}{N:List Ky ->Option (Nat×Nat)}(H:TJ v0 B J N c)(hc:c<=1048576)(hJ:J.length<=1048576)(h8:∀x∈J,(Way x).length<=8):
  ∀d z x,z.length+d=8 ->N z=Uq x ->∀w,Bl v0 w ->Cl 192 #[Uo #[.map (Uq x.1),.map (Uq x.2)]] w (Rt w (Ud (cW J z)))
 | 0,z,x,hz,hx,w,hw=>Qgh H hc hJ z x hx (fun y x1 h1=>absurd (H.deep h8 (z++[y]) (by rw [h1];simp)) oS) w hw
 | d+1,z,x,hz,hx,w,hw=>Qgh H hc hJ z x hx (fun y x1 h1=>Ql9 H hc hJ h8 d (z++[y]) x1 oS h1) w hw
theorem QmT{ts:List Dt}(h:w.ownsRow B 83 2 (Uf (Uc g) m cap) m (Ds.kRow ts))(hl:ts.length=m):∀i,i<m ->∃d,ts[i]? =Uq d/\ w.cell? (Ua g (i*2))=Uq (Ud d.1)/\ w.cell? (Ua g (i*2+1))=Uq (Ud d.2):=by
 rcases h.2 with ⟨y,_⟩|⟨o,t,k,z,A,u,b,p,s,r⟩
 ·cases y
 ·cases z;intro i hi;have v:i<ts.length:=oM;have q:ts.toArray[i]! =ts[i]:=by rw [getElem!_pos _ _ (oU v)];simp
  refine⟨ts[i],by simp [v],?_,?_⟩
  ·have j:(k.toList.take (m*2))[i*2]? =(Ds.kRow ts)[i*2]? :=(by rw [r]);rw [Vu oM,Ds.kRow_get ts (i*2) oM] at j;rw [show i*2/2=i by omega,show i*2%2=0 by omega,q] at j;simp [YO,u,<- YG,j,Ds.kCells]
  ·have j:(k.toList.take (m*2))[i*2+1]? =(Ds.kRow ts)[i*2+1]? :=(by rw [r]);rw [Vu oM,Ds.kRow_get ts (i*2+1) oM] at j;rw [show (i*2+1)/2=i by omega,show (i*2+1)%2=1 by omega,q] at j;simp [YO,u,<- YG,j,Ds.kCells]
theorem QpW{ts:List Dt}(h:w.ownsRow B 83 2 v ts.length (Ds.kRow ts)):∃a cap,v=Uf a ts.length cap/\ ts.length<=cap/\ cap<=9223372036854775807/\ (0<ts.length ->∃g,a=Uq (Ub g)/\ B<=g/\ g<w.heap.size/\∀i,i<ts.length ->∃d,ts[i]? =Uq d/\ w.cell? (Ua g (i*2))=Uq (Ud d.1)/\ w.cell? (Ua g (i*2+1))=Uq (Ud d.2)):=by
 rcases h.2 with ⟨rfl,j⟩|⟨g,cap,u,rfl,r,q,k,m,y,z⟩
 ·exact⟨Up,0,by rw [j],oM,oM,fun hh=>oM⟩
 ·exact⟨_,cap,rfl,k,by unfold maxLen at m;omega,fun _=>⟨g,rfl,r,(Array.getElem?_eq_some_iff.1 q).1,QmT h rfl⟩⟩
theorem QmU(h:w.ownsRow B 174 2 (Uf (Uc g) m cap) m (kRow ts))(hl:ts.length=m):∀i,i<m ->∃d,ts[i]? =Uq d/\ w.cell? (Ua g (i*2))=Uq (Um d.1)/\ w.cell? (Ua g (i*2+1))=Uq (Ud d.2):=by
 rcases h.2 with ⟨y,_⟩|⟨o,t,k,z,A,u,b,p,s,r⟩
 ·cases y
 ·cases z;intro i hi;have v:i<ts.length:=oM;have q:ts.toArray[i]! =ts[i]:=by rw [getElem!_pos _ _ (oU v)];simp
  refine⟨ts[i],by simp [v],?_,?_⟩
  ·have j:(k.toList.take (m*2))[i*2]? =(kRow ts)[i*2]? :=(by rw [r]);rw [Vu oM,kRow_get ts (i*2) oM] at j;rw [show i*2/2=i by omega,show i*2%2=0 by omega,q] at j;simp [YO,u,<- YG,j,kCells]
  ·have j:(k.toList.take (m*2))[i*2+1]? =(kRow ts)[i*2+1]? :=(by rw [r]);rw [Vu oM,kRow_get ts (i*2+1) oM] at j;rw [show (i*2+1)/2=i by omega,show (i*2+1)%2=1 by omega,q] at j;simp [YO,u,<- YG,j,kCells]
theorem QoB(h:w.ownsRow B 174 2 v ts.length (kRow ts)):∃a cap,v=Uf a ts.length cap/\ ts.length<=cap/\ cap<=9223372036854775807/\ (0<ts.length ->∃g,a=Uq (Ub g)/\ B<=g/\ g<w.heap.size/\∀i,i<ts.length ->∃d,ts[i]? =Uq d/\ w.cell? (Ua g (i*2))=Uq (Um d.1)/\ w.cell? (Ua g (i*2+1))=Uq (Ud d.2)):=by
 rcases h.2 with ⟨rfl,j⟩|⟨g,cap,u,rfl,r,q,k,m,y,z⟩
 ·exact⟨Up,0,by rw [j],oM,oM,fun hh=>oM⟩
 ·exact⟨_,cap,rfl,k,by unfold maxLen at m;omega,fun _=>⟨g,rfl,r,(Array.getElem?_eq_some_iff.1 q).1,QmU h rfl⟩⟩
theorem QkE{x:Lf}(hx:Qcz x)(h:nx p x=Uq y):(y.2=1 \/y.2=2) \/(y.2=3/\ p.length+2<=8):=by
 rw [Qb2] at h;obtain⟨⟨_,q⟩,e⟩:=h;have j:=congrArg Prod.snd e;unfold Qav at j;dsimp only at j;by_cases m:p.length+1<x.p.length
 ·rw [if_pos m] at j;have:=hx.1.2.1;exact .inr ⟨j.symm,oM⟩
 ·rw [if_neg m] at j;rcases QgZ x.fl with k|k<;>rw [k] at j
  ·exact .inl (.inl j.symm)
  ·exact .inl (.inr j.symm)
theorem TJ.nki{N:List Ky ->Option (Nat×Nat)}(h:TJ w B J N c)(h0:N []≠Up):NkI J J.length N:=fun z=>by
 by_cases e:z=[]
 ·rw [e];refine⟨fun _=> .inl rfl,fun _=> ?_⟩;cases hv:N [] with
  | none=>exact absurd hv h0
  | some v=>rfl
 ·obtain⟨u,y,rfl⟩:∃u y,z=u++[y]:=⟨z.dropLast,z.getLast e,(YA e).symm⟩;rw [h.there u y];constructor
  ·rintro⟨x,g,m⟩;obtain⟨j,k,q⟩:=Qao.1 g;exact .inr ⟨j,k,by rw [q];exact m⟩
  ·rintro(r|⟨j,k,m⟩)
   ·exact absurd r e
   ·exact⟨gL J j,Qao.2 ⟨j,k,rfl⟩,m⟩
theorem QkT (l:List Lf)(p:List ByteArray)(s:ByteArray)(d:Dt):Mk l l.length (Qac p 3++[(s,3)]) d=Up:=by
 refine Classical.byContradiction fun hn=> ?_;obtain⟨j,k,e,_⟩:=Qe6.1 hn;rw [<- QfQ] at e;have:=(QgB e.symm oP).2;rcases QgZ (gL l j).fl with h|h<;>omega
theorem Qnp{N:List Ky ->Option (Nat×Nat)}(hN:NkI l l.length N)(p:List ByteArray)(y u:Ky)(hy:y.2≠3):N (Qac p 3++[y]++[u])=Up:=by
 cases hv:N (Qac p 3++[y]++[u]) with
 | none=>rfl
 | some v=>
  exfalso;have q:(N (Qac p 3++[y]++[u])).isSome=true:=by rw [hv];rfl
  rcases (hN _).1 q with h|⟨j,o,m⟩
  ·simp at h
  ·have z:=m.length_le;simp only [UB,List.length_singleton,QaM,Way] at z;have k:(Way (gL l j))[p.length]? =Uq y:=by
    obtain⟨t,g⟩:=m;rw [<- g];simp [QaM]
   unfold Way at k;rw [Qb4 oM,if_pos oM] at k;have r:=congrArg Prod.snd (Option.some.inj k);exact hy r.symm
noncomputable def gK (l:List Lf)(f:Nat)(p:List ByteArray)(y:Ky):List Lf:=if y.2=3 then wL l f (p++[y.1]) else dsK l p y l.length
theorem Qqy (l:List Lf)(f:Nat)(p:List ByteArray):wL l (f+1) p=(kS l p l.length).flatMap (gK l f p):=rfl
theorem Qiu {α:Type}(g:α ->List Lf)(ts:List α)(k:Nat):((ts.take k).flatMap g).length<=(ts.flatMap g).length:=by
 have:ts.flatMap g=(ts.take k).flatMap g++(ts.drop k).flatMap g:=by rw [<- VU,Yy]
 rw [this,UB];omega
theorem Qfh (Bt c:Nat)(N:List Ky ->Option (Nat×Nat))(M:List Ky ->Dt ->Option ByteArray)(z:List Ky)(w:Ur)(hT:Tre w Bt N M c)(hc:c<=1048576)(hz:∀u,N (z++[u])=Up)(bv vw:Value):
  Cl 134 #[Uo #[.map (mF (N z)),.map (mS (N z))],bv,vw] w (Rt w bv):=by
 obtain⟨W,j⟩:=zE (w.alloc (Uj #[.map (mF (N z)),.map (mS (N z))] 124));have q:Bl w W:=j▸zO _ _;have m:Bx2 W w.heap.size (.map (mF (N z))) (.map (mS (N z))):=j▸Bx2.made _ _ _ _;have k:=hid (QcI Bt c N M z W (hT.bw q) hc);obtain⟨Z,r⟩:=zE (mF (N z));obtain⟨G,v⟩:=zE (mS (N z));rw [r,v] at m k j;rw [r,v];obtain⟨E,O⟩:=m.q2;have t:=hid q;have i:=hid hz;clear m q hT r v hz;go_enter func134,ntmps134;go_wp2_with fail;try rw [j]
 clear j;refine k.mono ?_;rintro e w1 ⟨H,Q,rfl,A,g,s,h,y⟩;obtain rfl:Q=[]:=List.eq_nil_iff_forall_not_mem.2 fun x hx=>(g x).1 hx (by unfold Qjz;exact i x);obtain⟨U,V,rfl,b,Y,p⟩:=QoB h;have o:=hid (Qaa t y);simp only [Yr] at b ⊢;clear A g s h y p E O k;go_wp2_with fail;refine wp_loop_rounds 1 ?_;rw [rounds_succ];go_wp2_with fail;go_ret;exact⟨rfl,o⟩
theorem QcN {R F T:Nat ->Int}{n:Nat}(l:List Lf)(w0:Ur)(Bt c:Nat)(N:List Ky ->Option (Nat×Nat))(hT:Tre w0 Bt N (Mk l l.length) c)(hN:NkI l l.length N)(hc:c<=1048576)(hlv:QbT R F T n l l.length)(hbd:LvB l):∀(f:Nat) (p:List ByteArray),p.length+f=8 ->1<=f ->∀(bv:Value) (l0:List Lf) (vw:Value) (w:Ur),Bl w0 w ->LB w w0.heap.size bv l0 ->Qh2 w vw p ->(∀g,vw.ownBlock=Uq g ->bv.ownBlock≠Uq g) ->l0.length+(wL l f p).length<=1000000 ->
  Cl 134 #[Uo #[.map (mF (N (Qac p 3))),.map (mS (N (Qac p 3)))],bv,vw] w fun e w'=>∃v,e=Ui v/\ LB w' w0.heap.size v (l0++wL l f p)/\ Gr w w' bv v
 | 0,_,_,M,_,_,_,_,_,_,_,_,_=>oM
 | f+1,p,hpf,_,bv,l0,vw,w,hb,ho,hvw,hne,hl=>by
  obtain⟨k1,k2⟩:=Qeh p hlv l.length zL;rw [Qqy] at hl ⊢;have J6:Hid (∀s,p.length+2<=8 ->∀(bv:Value) (l0:List Lf) (vw:Value) (w:Ur),Bl w0 w ->LB w w0.heap.size bv l0 ->Qh2 w vw (p++[s]) ->(∀g,vw.ownBlock=Uq g ->bv.ownBlock≠Uq g) ->l0.length+(wL l f (p++[s])).length<=1000000 ->Cl 134 #[Uo #[.map (mF (N (Qac p 3++[(s,3)]))),.map (mS (N (Qac p 3++[(s,3)])))],bv,vw] w fun e w'=>∃v,e=Ui v/\ LB w' w0.heap.size v (l0++wL l f (p++[s]))/\ Gr w w' bv v):=hid (fun s Jr bv l0 vw w M m C h4 h5=>by
   rw [<- QfQ];exact QcN l w0 Bt c N hT hN hc hlv hbd f (p++[s]) oS oM bv l0 vw w M m C h4 h5)
  obtain⟨W,hW⟩:=zE (w.alloc (Uj #[.map (mF (N (Qac p 3))),.map (mS (N (Qac p 3)))] 124));have b0:Bl w W:=hW▸zO _ _;have X0:Bx2 W w.heap.size (.map (mF (N (Qac p 3)))) (.map (mS (N (Qac p 3)))):=hW▸Bx2.made _ _ _ _;have zW:W.heap.size=w.heap.size+1:=hW▸oP;have Kn:Bl w0 W:=hb.trans (b0.mono hb.size);have Kd:=hid (QcI Bt c N (Mk l l.length) (Qac p 3) W (hT.bw Kn) hc);obtain⟨m0,Gp⟩:=zE (mF (N (Qac p 3)));obtain⟨m1,Hm⟩:=zE (mS (N (Qac p 3)));rw [Gp,Hm] at X0 Kd hW;rw [Gp,Hm];obtain⟨q0,q1⟩:=X0.q2;have HX:=hid X0;have J0:=hid b0;have Gy:=hid Kn;have HO:=hid (ho.bw b0);have Je:=hid (hvw.bw b0);have HT:=hid hT;have Ja:=hid hN;have Lb:=hid Gp;have Lc:=hid hne;have Li:Hid (∀g,vw.ownBlock=Uq g ->g<w.heap.size):=hid hvw.lt;have Hp:Hid (∀g,bv.ownBlock=Uq g ->w0.heap.size<=g/\ g<w.heap.size):=hid ho.lt;have Gj:=hid k2;have K8:=hid hl;have Jg:=hid zW;have Lw:Hid (w0.heap.size<=w.heap.size):=hid hb.size;clear X0 b0 Kn ho Gp Hm k1 k2 hvw hne hl zW hb hN;go_enter func134,ntmps134;go_wp2_with fail;try rw [hW]
  clear hW;refine Kd.mono ?_;rintro e w1 ⟨vd,E,rfl,Gf,Hd,Gs,Gq,b1⟩;have Gb:=Qjv (p:=p) hlv Ja Gf Hd;obtain⟨da,dc,rfl,Ln,Lo,Jm⟩:=QoB Gq;have Lp:E.length<=1000:=by rw [Gb];have:=QeP l p l.length;have:=hbd.len;omega
  have HD:Hid (0<E.length ->∃g,da=Uq (Ub g)/\ W.heap.size<=g/\ g<w1.heap.size/\∀i,i<E.length ->∃y∈E,E[i]? =Uq y/\ w1.cell? (Ua g (i*2))=Uq (Um y.1)/\ w1.cell? (Ua g (i*2+1))=Uq (Ud y.2)):=hid (fun h0=>by
   obtain⟨g,e1,e2,e3,e4⟩:=Jm h0;refine⟨g,e1,e2,e3,fun i hi=> ?_⟩;obtain⟨d,f1,f2,f3⟩:=e4 i hi;exact⟨d,Yx f1,f1,f2,f3⟩)
  have K7:Hid (∀y∈E,y.1.size<=40/\ ((y.2=1 \/y.2=2) \/(y.2=3/\ p.length+2<=8))):=hid (fun y hy=>by
   rw [Gb] at hy;obtain⟨j,hj,e⟩:=(Gj y).1 hy;exact⟨Qen (hlv j hj).1 e,QkE (hlv j hj).1 e⟩)
  have Lh:Hid (kS l p l.length=E):=hid Gb.symm;rw [<- Gb] at K8;have La:Hid (∀y∈E,∀w',Bl w0 w' ->(Instr.lookup 121 (.map m0) (Uo #[Um y.1,Ud y.2]) false).run prog w'=.ok (Uo #[.map (mF (N (Qac p 3++[y]))),.map (mS (N (Qac p 3++[y])))]) w'):=hid (fun y hy w' hb'=>by
   have hl:=K7 y hy;obtain⟨kl,Kr⟩:=QhM (s:=y.1) (k:=y.2) oL (wfI oM oM);have:=(HT.bw hb').look (Qac p 3) y Kr;rw [Lb.out] at this;exact this)
  have X1:=HX.bw b1 HX.lt;have Lj:=hid X1;have Jb:=hid (HO.bw b1);have Ka:=hid (Je.bw b1);have K2:=hid (Gy.trans (b1.mono Gy.size));have Gv:=hid (Qaa J0 b1);have Ke:Hid (w0.heap.size<=w1.heap.size/\ w.heap.size<w1.heap.size):=hid (by have M:=K2.size;have m:=b1.size;have C:=Jg.out;omega);clear q0 q1 Gq Gf Hd Gs Jm Gb b1 Kd X1 HX HO Gy Je;go_wp2_with fail;go_loopw [1,16] (fun b' i wr=>∃(k:Nat),k<=E.length/\ i=Ud k/\ Hid (LB wr w0.heap.size b' (l0++(E.take k).flatMap (gK l f p)))/\ Hid (Gr w1 wr bv b')) (fun _ i _=>E.length - (intOf i).toNat);case atStart=>exact⟨0,Ux _,rfl,hid (oU Jb),hid (Gr.refl _ _)⟩
  case round=>
   clear Jb;obtain⟨k,hk,rfl,Gk,Hg⟩:=hrel;by_cases Jq:k<E.length
   ·obtain⟨g,rfl,L4,L5,Jn⟩:=HD oM;obtain⟨y,Kv,Jx,H6,H7⟩:=Jn k Jq;have Ht:Uq g≠bv.ownBlock:=fun e=>by have M:=(Hp g e.symm).2;have m:=Jg.out;omega
    have H5:Uq w.heap.size≠bv.ownBlock:=fun e=>by have:=(Hp _ e.symm).2;omega
    have c1:=Hg.g.cell H6 Ht;have c2:=Hg.g.cell H7 Ht;have n0:=Hg.g.cell Lj.c0 H5;have Ku:=K7 y Kv;have Gi:Hid (Bl w0 wr):=hid (K2.trans (Hg.bw Ke.1 (fun k hk=>(Hp k hk).1)));have Lg:Hid (Qh2 wr vw p):=hid (Ka.move Hg.g.size (fun g hg=>Hg.g.block g (by have M:=Li g hg;have m:=Ke.2;omega) (fun e=>Lc.out g hg e.symm)));have Kg:Hid (∀g,u1.ownBlock=Uq g ->w0.heap.size<=g/\ g<wr.heap.size):=hid Gk.lt;have Gn:Hid ((E.take (k+1)).flatMap (gK l f p)=(E.take k).flatMap (gK l f p)++gK l f p y):=hid (by rw [Vl,Jx];simp);have H3:Hid ((l0++(E.take k).flatMap (gK l f p)).length+(gK l f p y).length<=1000000):=hid (by
     have M:=Qiu (gK l f p) E (k+1);rw [Gn.out,UB] at M;have m:=K8.out;simp only [UB] at m ⊢;omega)
    obtain⟨L0,Ki⟩:=zE (l0++(E.take k).flatMap (gK l f p));have Hi:Hid (∀w',Bl w0 w' ->(Instr.lookup 121 (.map m0) (Uo #[Um y.1,Ud y.2]) false).run prog w'=.ok (Uo #[.map (mF (N (Qac p 3++[y]))),.map (mS (N (Qac p 3++[y])))]) w'):=hid (fun w' h=>La.out y Kv w' h);obtain⟨ls,Gh,Jo,Gc,Jp,Ge⟩:∃ls Gh:List Lf,gK l f p y=ls++Gh/\ (∀Hf:List Dt,Hf.Pairwise (fun x y=>QbC x y<0) ->(∀d,d∈Hf↔Mk l l.length (Qac p 3++[y]) d≠Up) ->Hf=ls.map fun x=>((x.r,x.q):Dt))/\ (∀x∈ls,x=⟨p++[y.1],decide (y.2=2),x.r,x.q,x.v⟩/\ Mk l l.length (Qac p 3++[y]) (x.r,x.q)=Uq x.v/\ (0<=x.r/\ x.r<8)/\ (0<=x.q/\ x.q<=1000000000))/\
      (∀(bv:Value) (l0:List Lf) (vw:Value) (w:Ur),Bl w0 w ->LB w w0.heap.size bv l0 ->Qh2 w vw (p++[y.1]) ->(∀g,vw.ownBlock=Uq g ->bv.ownBlock≠Uq g) ->l0.length+Gh.length<=1000000 ->Cl 134 #[Uo #[.map (mF (N (Qac p 3++[y]))),.map (mS (N (Qac p 3++[y])))],bv,vw] w fun e w'=>∃v,e=Ui v/\ LB w' w0.heap.size v (l0++Gh)/\ Gr w w' bv v):=by
     rcases Ku.2 with L1|⟨C,Jr⟩
     ·have Gg:y.2≠3:=oM;refine⟨dsK l p y l.length,[],by unfold gK;rw [if_neg Gg,VW],fun Hf M m=>Qgi hlv Gg M m,fun x hx=> ?_,fun bv l0 vw w M m C h4 h5=> ?_⟩
      ·have hv:=Qgu Gg hbd.dis hx;obtain⟨j,hj,e,rfl⟩:=Qbd.1 hx;have hp:=Qb9 Gg e;refine⟨?_,hv,hbd.rep j hj,hbd.seq j hj⟩;obtain⟨x,hx⟩:=zE (gL l j);rw [hx] at hp ⊢;obtain⟨xp,xf,P,D,xv⟩:=x;have e1:xp=p++[y.1]:=hp.1;have e2:kd xf=y.2:=hp.2;have e3:xf=decide (y.2=2):=(by rw [<- e2];cases xf<;>simp [kd]);rw [<- e1,<- e3]
      ·refine(Qfh Bt c N (Mk l l.length) (Qac p 3++[y]) w (HT.bw M) hc (fun u=>Qnp Ja p y u Gg) bv vw).mono ?_;rintro e w' ⟨rfl,b⟩;exact⟨bv,rfl,by rw [VW];exact m.bw b,Gr.of_below b⟩
     ·obtain⟨s,Y⟩:=y;have C:Y=3:=C;subst C;refine⟨[],wL l f (p++[s]),by unfold gK;rw [if_pos rfl,VX],fun Hf M m=> ?_,fun x hx=>(by cases hx),J6 s Jr⟩;exact List.eq_nil_iff_forall_not_mem.2 fun d hd=>(m d).1 hd (QkT l p s d)
    have J7:=hid Gc;have G5:=hid Jp;have Kb:=hid Ge;have G6:Hid (∀w',Bl w0 w' ->∀x∈ls,(Instr.lookup 122 (.map (mS (N (Qac p 3++[y])))) (Uo #[Ud x.r,Ud x.q]) false).run prog w'=.ok (Uo #[Um x.v]) w'):=hid (fun w' hb' x hx=>by
     have hv:=G5 x hx;have T':=HT.bw hb';cases e:N (Qac p 3++[y]) with
     | none=>have h:=hv.2.1;rw [T'.none' _ e] at h;cases h
     | some x1=>
      obtain⟨kl,Kr⟩:=QdP (r:=x.r) (q:=x.q) (wfI oM oM) (wfI oM oM);have:=(T'.marks _ x1 e).look Qau underlying122 (QfS w') (x:=(x.r,x.q)) Kr;rw [hv.2.1] at this;exact this)
    have Hq:Hid (∀w',Bl w0 w' ->Cl 127 #[Uo #[.map (mF (N (Qac p 3++[y]))),.map (mS (N (Qac p 3++[y])))]] w' fun e Hw=>∃(v:Value) (E:List Dt),e=Ui v/\ E=(ls.map fun x=>((x.r,x.q):Dt))/\ Hw.ownsRow w'.heap.size 83 2 v E.length (Ds.kRow E)/\ Bl w' Hw):=hid (fun w' hb'=>by
     refine(Ds.sortedDotsC Bt c N (Mk l l.length) (Qac p 3++[y]) w' (HT.bw hb') hc).mono ?_;rintro e Hw ⟨v,Hf,rfl,M,m,_,h4,h5⟩;exact⟨v,Hf,rfl,J7 Hf M m,h4,h5⟩)
    obtain⟨a1,Ji⟩:=zE (mF (N (Qac p 3++[y])));obtain⟨a2,Km⟩:=zE (mS (N (Qac p 3++[y])));rw [Ji,Km] at Hi Kb Hq;rw [Km] at G6;rw [Jo] at Gn H3;rw [Ki] at H3 Gk;have G0:Hid (l0++(E.take (k+1)).flatMap (gK l f p)=L0++(ls++Gh)):=hid (by rw [Gn.out,<- Ki];simp);obtain⟨s,Y⟩:=y;dsimp only at c1 c2 Ku Hi G6 Kb G5;have Lv:Hid (s.size<=40):=hid Ku.1;obtain⟨O,Kk⟩:=zE (wr.alloc (Uj #[Um s,Ud Y] 174));have D1:Bx2 O wr.heap.size (Um s) (Ud Y):=Kk▸Bx2.made _ _ _ _;have Go:Bl wr O:=Kk▸zO _ _;obtain⟨z,Kl⟩:=zE (O.alloc (Uj #[.map a1,.map a2] 124));have Kh:Bl O z:=Kl▸zO _ _;have Hh:Hid (Bx2 z O.heap.size (.map a1) (.map a2)):=hid (Kl▸Bx2.made _ _ _ _);have H1:=hid (D1.bw Kh D1.lt);have Gw:=hid (Qaa Go Kh);have Hx:Hid (Bl w0 z):=hid (Gi.trans (Gw.mono Gi.size));have G9:=hid (Lg.bw Gw);have Jf:Hid (wr.heap.size<O.heap.size/\ O.heap.size<z.heap.size):=hid ⟨D1.lt,Hh.lt⟩;have Hz:=hid (fun w'(hb':Bl z w')=>QnS vw p w' oM (G9.bw hb'));obtain⟨q0,q1⟩:=D1.q2;have Lu:=(Go.cell (p:=(Ub w.heap.size)) (by have M:=Ke.2;have m:=Hg.g.size;show w.heap.size<wr.heap.size;omega)).trans n0;have Lq:=Hi O (Gi.trans (Go.mono Gi.size));have S:Hid (∀w',Bl z w' ->w'.cell? (Ub wr.heap.size)=Uq (Um s)):=hid (fun w' b=>(H1.bw b H1.lt).c0);clear D1 Go Kh H6 H7 Jn Kv Jx H5 Ht Jp Gc Ge Jo Ki Ji Km Hi Gn;go_upto_region 5 with fail;clear q0 q1 Lu Lq n0 c1 c2 Kk Kl;go_cut [10] from 24 to 29 (fun v10 wx=>∃Q J,v10=Uf (Uc Q) (p.length+1) J/\ Hid (wx.ownsRow z.heap.size 9 1 (Uf (Uc Q) (p.length+1) J) (p.length+1) (Qck (p++[s])))/\ Hid (Bl z wx));case first=>
     refine zS S (fun qh=> ?_);refine tZ 0 24 ?_;refine tZ 2 26 ?_;refine tZ 3 27 ?_;refine QaK (i:=1) (j:=4) (d:=Uq 25) (d':=Uq 28) oK oK oK ?_ ?_
     ·
      intro o ho Gq K A;simp only [gZa,gZb,gZc,gZd] at ho;subst ho;go_simp;refine(Hz _ zI.drew).mono ?_;rintro e w3 ⟨v3,rfl,b3,o3⟩;have Hk:Bl z w3:=⟨b3.os,b3.tape,b3.output,b3.size,b3.block⟩;refine A.out _ _ (S _ Hk) (fun qh=> ?_);clear A K;try simp only [zP]
      refine cZ 4 ?_;intro K A;go_simp;have B:Bl z (w3.alloc (Uj #[Um s] 9)):=Hk.alloc Hk.size _;refine A.out _ _ (S _ B) (fun qh=> ?_);clear A K;try simp only [zP]
      have o4:(w3.alloc (Uj #[Um s] 9)).ownsRow z.heap.size 9 1 v3 p.length (Qck p):=World.ownsRow.alloc o3 _;obtain⟨Q,J,w5,Hb,o5,g5,Ks⟩:=QjK o4 B.size oM s w3.heap.size oP;have Hr:Bl z w5:=B.grown g5 B.size (fun k e=>(World.ownsRow.lt o4 k e).1);refine cZ 5 ?_;intro K A;refine Qbg _ _ _ _ rfl Hb (by rfl) (by rfl) rfl ?_;refine A.out _ _ (S _ Hr) (fun qh=> ?_);clear A K;try simp only [zP]
      refine tZ 6 10 ?_;refine zD ?_;have Hj:=hid o5;have L:=hid Hr;clear qh b3 Hk B o3 o4 o5 g5 Hr Hb S Hz Ks;go_wp2_with fail;go_meet;exact⟨Q,J,rfl,Hj,L⟩
     ·
      intro o ho Gq K A;simp only [gZa,gZb,gZc,gZd] at ho;subst ho;go_simp;have Hk:Bl z (z.drew.alloc (Uj #[Um s] 9)):=(zI.drew).alloc zL _;refine A.out _ _ (S _ Hk) (fun qh=> ?_);clear A K;try simp only [zP]
      refine cZ 1 ?_;intro K A;go_simp;refine(Hz _ Hk).mono ?_;rintro e w4 ⟨v3,rfl,b4,o4⟩;have B:Bl z w4:=Qaa Hk b4;refine A.out _ _ (S _ B) (fun qh=> ?_);clear A K;try simp only [zP]
      have Hm:=Bx1.made z.drew (Um s) 9;have Jk:w4.cell? (Ub z.heap.size)=Uq (Um s):=(b4.cell (p:=(Ub z.heap.size)) Hm.lt).trans Hm.c0;have Kz:w4.ownsRow z.heap.size 9 1 v3 p.length (Qck p):=QaW o4 (YD Hm.lt);obtain⟨Q,J,w5,Hb,o5,g5,Ks⟩:=QjK Kz B.size oM s z.heap.size Jk;have Hr:Bl z w5:=B.grown g5 B.size (fun k e=>(World.ownsRow.lt Kz k e).1);refine cZ 5 ?_;intro K A;refine Qbg _ _ _ _ rfl Hb (by rfl) (by rfl) rfl ?_;refine A.out _ _ (S _ Hr) (fun qh=> ?_);clear A K;try simp only [zP]
      refine tZ 6 10 ?_;refine zD ?_;have Hj:=hid o5;have L:=hid Hr;clear qh Hk B b4 Hm Jk o4 Kz o5 g5 Hr Hb S Hz Ks;go_wp2_with fail;go_meet;exact⟨Q,J,rfl,Hj,L⟩
    case rest=>
    obtain⟨Q,J,rfl,Hj,L⟩:=hcut;obtain⟨w5,Ju⟩:=zE wc;rw [Ju] at Hj L ⊢;clear Ju S Hz;obtain⟨bu,Lm⟩:∃b,b=u1:=⟨_,rfl⟩;subst Lm;obtain⟨U,Ls⟩:∃b,b=wr:=⟨_,rfl⟩;subst Ls;have Hn:Hid (Bl w0 w5):=hid (Hx.trans (L.mono Hx.size));have K5:=Hh.bw L Hh.lt;obtain⟨Kw,Kx⟩:=K5.q2;have G2:=hid K5;have Gz:=hid (H1.bw L H1.lt);have Le:Hid (z.heap.size<=Q/\ Q<w5.heap.size):=hid (World.ownsRow.lt Hj Q rfl);clear K5;go_wp2_with fail;refine(Hq w5 Hn).mono ?_;rintro e Z ⟨L7,Hf,rfl,Hd,Gd,b6⟩;obtain⟨Ll,Lz,rfl,H8,Jl,H9⟩:=QpW Gd;have Jt:Hf.length=ls.length:=(by rw [Hd];simp);have J2:Hid (0<ls.length ->∃I,Ll=Uq (Ub I)/\ w5.heap.size<=I/\ I<Z.heap.size/\∀i,i<ls.length ->∃x∈ls,ls[i]? =Uq x/\ Z.cell? (Ua I (i*2))=Uq (Ud x.r)/\ Z.cell? (Ua I (i*2+1))=Uq (Ud x.q)):=hid (fun h0=>by
     obtain⟨I,e1,e2,e3,e4⟩:=H9 oM;refine⟨I,e1,e2,e3,fun i hi=> ?_⟩;obtain⟨d,f1,f2,f3⟩:=e4 i oM;rw [Hd] at f1;simp only [Yj,Ym] at f1;obtain⟨x,f4,f5⟩:=f1;subst f5;exact⟨x,Yx f4,f4,f2,f3⟩)
    rw [Jt] at H8 ⊢;have Lr:ls.length<=1000000:=(by have:=H3.out;simp only [UB] at this;omega);have K0:=Qaa L b6;have Gu:=Qaa Gw K0;have Gx:=hid Gu;have Jc:Hid (LB Z w0.heap.size bu L0):=hid (Gk.bw Gu);have G8:Hid (Z.ownsRow z.heap.size 9 1 (Uf (Uc Q) (p.length+1) J) (p.length+1) (Qck (p++[s]))):=hid (Qap Hj (fun g hg=>b6.block g (World.ownsRow.lt Hj g hg).2));have J1:=hid (Gz.bw b6 Gz.lt);have K6:=hid (G2.bw b6 G2.lt);have Hy:Hid (Bl w0 Z):=hid (Hn.trans (b6.mono Hn.size));have V:Hid (U.heap.size<O.heap.size/\ O.heap.size<z.heap.size/\ z.heap.size<=w5.heap.size/\ w5.heap.size<=Z.heap.size/\ w0.heap.size<=Z.heap.size):=hid ⟨Jf.1,Jf.2,L.size,b6.size,Hy.size⟩;clear Gd H9 Hd Jt b6 K0 Gu Kw Kx Gz G2 Hj L Hh H1 Hq;go_wp2_with fail;go_loopw [1,33] (fun b' i wr=>∃(t:Nat),t<=ls.length/\ i=Ud t/\ Hid (LB wr w0.heap.size b' (L0++ls.take t))/\ Hid (Gr Z wr bu b')) (fun _ i _=>ls.length - (intOf i).toNat);case atStart=>exact⟨0,Ux _,rfl,hid (oU Jc),hid (Gr.refl _ _)⟩
    case round=>
     clear Jc;obtain⟨t,ht,rfl,Gl,G⟩:=hrel;have Hv:Hid (∀b,U.heap.size<=b ->Uq b≠bu.ownBlock):=hid (fun b hb e=>oH ((Kg b e.symm).2));have He:Hid (∀b,((U.heap.size<=b/\ b<Z.heap.size) \/wr.heap.size<=b) ->Uq b≠u1.ownBlock):=hid (fun b hb e=>by
      have M:=(Gl.lt b e.symm).2;rcases G.l with m|⟨j,m,C⟩
      ·rw [m] at e;have:=(Kg b e.symm).2;have:=V.out;omega
      ·rw [m] at e;have e:b=j:=by injection e
       omega)
     have L6:=G.g.size;have Gj:=hid (G.g.cell K6.c0 (Hv _ (by have:=V.out;show U.heap.size<=O.heap.size;omega)));have G1:=hid (G.g.cell K6.c1 (Hv _ (by have:=V.out;show U.heap.size<=O.heap.size;omega)));have K4:=hid (G.g.cell J1.c1 (Hv _ zL));have Ho:Hid (Bl w0 wr):=hid (Hy.trans (G.bw V.2.2.2.2 (fun k hk=>(Kg k hk).1)));have Gm:Hid (wr.ownsRow z.heap.size 9 1 (Uf (Uc Q) (p.length+1) J) (p.length+1) (Qck (p++[s]))):=hid (Qap G8 (fun g hg=>G.g.block g (World.ownsRow.lt G8 g hg).2 (Hv g (by have M:=(World.ownsRow.lt G8 g hg).1;have m:=V.out;omega))));by_cases Gs:t<ls.length
     ·obtain⟨I,rfl,Kp,Kq,Ga⟩:=J2 oM;obtain⟨x,Kt,Jw,H6,H7⟩:=Ga t Gs;have c1:=G.g.cell H6 (Hv I (by have m:=V.out;show U.heap.size<=I;omega));have c2:=G.g.cell H7 (Hv I (by have m:=V.out;show U.heap.size<=I;omega));have Gt:=G5 x Kt;have G7:Hid (∀w',Bl w0 w' ->(Instr.lookup 122 (.map a2) (Uo #[Ud x.r,Ud x.q]) false).run prog w'=.ok (Uo #[Um x.v]) w'):=hid (fun w' h=>G6.out w' h x Kt);have Kf:Hid (ls.take (t+1)=ls.take t++[x]):=hid (by rw [Vl,Jw];rfl);obtain⟨xp,xf,P,D,xv⟩:=x;dsimp only at c1 c2 Gt G7;have Lt:xp=p++[s]:=congrArg Lf.p Gt.1;have Jv:xf=decide (Y=2):=congrArg Lf.fl Gt.1;subst Lt;have L3:(Y==2)=xf:=(by rw [Jv];rfl);have L2:∀w:Ur,(Instr.field 169 (Uo #[Um xv]) 0).run prog w=.ok (Um xv) w:=fun w=>oK;obtain⟨X,Kj⟩:=zE (wr.alloc (Uj #[Ud P,Ud D] 83));have Hs:Bl wr X:=Kj▸zO _ _;have DV:Bx2 X wr.heap.size (Ud P) (Ud D):=Kj▸Bx2.made _ _ _ _;have H2:=hid DV;have Hu:Hid (Bl w0 X):=hid (Ho.trans (Hs.mono Ho.size));have K9:=hid (Gl.bw Hs);have Jd:=hid (Qdu (Qap Gm (fun g hg=>Hs.block g (World.ownsRow.lt Gm g hg).2)) (show (p++[s]).length=p.length+1 by simp));have H0:Hid (∀w',Bl X w' ->Cl 160 #[Uf (Uc Q) (p.length+1) J] w' fun e Hw=>∃q cap,e=Ui (Uf (Uc q) (p.length+1) cap)/\ Bl w' Hw/\ Hw.ownsRow w'.heap.size 9 1 (Uf (Uc q) (p.length+1) cap) (p.length+1) (Qck (p++[s]))):=hid (fun w' hb'=>by
       have hw:=Jd.2.same (hb'.block Q Jd.2.lt);exact Ql7 Q (p.length+1) J (p++[s]) w' oP oM hw.lt (fun t ht=>hw.cell ht))
      have K1:Hid (∀w7 q7 Ha,Bl X w7 ->w7.ownsRow X.heap.size 9 1 (Uf (Uc q7) (p.length+1) Ha) (p.length+1) (Qck (p++[s])) ->∃q' Hc n' w3,(Builtin.append_ #[23,23] 23 #[u1,Uf (Uc w7.heap.size) 1 1]).run prog (w7.alloc (Uj #[Uf (Uc q7) (p.length+1) Ha,Un xf,Ud P,Ud D,Um xv] 85))=.ok (Uf (Uc q') n' Hc) w3/\
        LB w3 w0.heap.size (Uf (Uc q') n' Hc) (L0++ls.take (t+1))/\ Gr w7 w3 u1 (Uf (Uc q') n' Hc)):=hid (fun w7 q7 Ha b7 o7=>by
       have Js:=World.ownsRow.lt o7 q7 rfl;have Ko:p.length+1<=Ha/\ Ha<=9223372036854775807:=by
        rcases o7.2 with ⟨h0,_⟩|⟨g',Hc,Ly,hv,Jj,hb,M,m,C,h4⟩
        ·cases h0
        ·injection hv with e1 e2 e3;unfold maxLen at m;omega
       obtain⟨q',Hc,w3,e1,e2,e3⟩:=K9.app b7 Hu.size (by have M:=H3.out;simp only [UB,Vo] at M ⊢;omega) ⟨p++[s],xf,P,D,xv⟩ q7 Ha Js.1 Js.2 (by simpa using (Qdu o7 (show (p++[s]).length=p.length+1 by simp)).2) (oU Ko);refine⟨q',Hc,_,w3,oU e1,?_,e3⟩;rw [Kf.out,<- Vg];exact e2)
      have Kc:Hid (∀w',Bl w0 w' ->w'.cell? (Ua U.heap.size 1)=Uq (Ud Y) ->w'.cell? (Ua O.heap.size 1)=Uq (.map a2) ->w'.cell? (Ub wr.heap.size)=Uq (Ud P) ->w'.cell? (Ua wr.heap.size 1)=Uq (Ud D) ->(w'.cell? (Ua U.heap.size 1)=Uq (Ud Y)/\ w'.cell? (Ua O.heap.size 1)=Uq (.map a2)/\ w'.cell? (Ub wr.heap.size)=Uq (Ud P)/\ w'.cell? (Ua wr.heap.size 1)=Uq (Ud D)/\ (Instr.lookup 122 (.map a2) (Uo #[Ud P,Ud D]) false).run prog w'=.ok (Uo #[Um xv]) w')):=hid (fun w' M m C h4 h5=>⟨m,C,h4,h5,G7 w' M⟩);have G4:=hid ((Hs.cell (p:=(Ua U.heap.size 1)) (by have:=V.out;show U.heap.size<wr.heap.size;omega)).trans K4);have G3:=hid ((Hs.cell (p:=(Ua O.heap.size 1)) (by have:=V.out;show O.heap.size<wr.heap.size;omega)).trans G1);have Hl:Hid (∀w',Bl X w' ->(w'.cell? (Ua U.heap.size 1)=Uq (Ud Y)/\ w'.cell? (Ua O.heap.size 1)=Uq (.map a2)/\ w'.cell? (Ub wr.heap.size)=Uq (Ud P)/\ w'.cell? (Ua wr.heap.size 1)=Uq (Ud D)/\ (Instr.lookup 122 (.map a2) (Uo #[Ud P,Ud D]) false).run prog w'=.ok (Uo #[Um xv]) w')):=hid (fun w' b=>by
       have hz:=H2.lt;have h6:=V.out;exact Kc w' (Hu.trans (b.mono Hu.size)) ((b.cell (p:=(Ua U.heap.size 1)) oQ).trans G4) ((b.cell (p:=(Ua O.heap.size 1)) oQ).trans G3) (H2.bw b H2.lt).c0 (H2.bw b H2.lt).c1)
      have J5:Hid (Gr Z X bu u1):=hid (G.trans (Gr.of_below Hs));have Lx:Hid (wr.heap.size<X.heap.size):=hid DV.lt;clear Hs DV H6 H7 Ga Kt Jw Gt Gl G Jv G7 K4 G1 Gj Gm Kp Kq;go_wp2_with fail;refine zS Hl (fun qh=> ?_);clear c1 c2 Kj;refine tZ 0 37 ?_;refine tZ 1 38 ?_;refine tZ 3 40 ?_;refine tZ 4 41 ?_;refine tZ 5 42 ?_;refine tZ 6 43 ?_;refine tZ 7 44 ?_;refine tZ 8 45 ?_;refine tZ 9 46 ?_;refine tZ 10 47 ?_;refine tZ 11 48 ?_;refine cZ 2 ?_;intro K A;go_simp;refine(H0 _ zI.drew).mono ?_;rintro e w7 ⟨q7,Ha,rfl,b7,o7⟩;have H:Bl X w7:=⟨b7.os,b7.tape,b7.output,b7.size,b7.block⟩;refine A.out _ _ (Hl _ H) (fun qh=> ?_);clear A K;try simp only [zP]
      refine tZ 12 49 ?_;refine cZ 13 ?_;intro K A;go_simp;obtain⟨q8,Lk,n8,w8,Hb,Jy,g8⟩:=K1 w7 q7 Ha H o7;have Jh:Bl X (w7.alloc (Uj #[Uf (Uc q7) (p.length+1) Ha,Un xf,Ud P,Ud D,Um xv] 85)):=H.alloc H.size _;refine A.out _ _ (Hl _ Jh) (fun qh=> ?_);clear A K;try simp only [zP]
      refine cZ 14 ?_;intro K A;refine Qbg _ _ _ _ rfl Hb (by rfl) (by rfl) rfl ?_;have t1:=(Hl _ H).1;have t2:=(Hl _ H).2.1;have t3:=(Hl _ H).2.2.1;have t4:=(Hl _ H).2.2.2.1;have H4:Bl w0 w8:=(Hu.trans (H.mono Hu.size)).trans (g8.bw (by have M:=Hu.size;have m:=H.size;omega) (fun k hk=>(K9.lt k hk).1));refine A.out _ _ (Kc _ H4 (g8.g.cell t1 (He _ (.inl ⟨Uv _,by have:=V.out;show U.heap.size<Z.heap.size;omega⟩))) (g8.g.cell t2 (He _ (.inl ⟨by have:=V.out;show U.heap.size<=O.heap.size;omega,by have:=V.out;show O.heap.size<Z.heap.size;omega⟩))) (g8.g.cell t3 (He _ (.inr zL))) (g8.g.cell t4 (He _ (.inr zL)))) (fun qh=> ?_);clear A K;try simp only [zP]
      refine tZ 15 1 ?_;refine zD ?_;have J8:=hid Jy;have J3:=hid ((J5.trans (Gr.of_below H)).trans g8);clear qh b7 H Jh o7 Hb Jy g8 t1 t2 t3 t4 H4 Hl Kc K1 H0;go_wp2_with fail;go_roundw;case rel=>exact⟨t+1,Gs,oN,J8,J3⟩
      case measure=>exact oE
     ·obtain rfl:t=ls.length:=oM;have Ld:Hid (LB wr w0.heap.size u1 (L0++ls)):=hid (by have:=Gl.out;rw [Vn] at this;exact this);have Kw:=Gj.out;have Kx:=G1.out;have K3:=hid (Kb u1 (L0++ls) (Uf (Uc Q) (p.length+1) J) wr Ho Ld (Qdu Gm (show (p++[s]).length=p.length+1 by simp)).1 (fun g hg e=>by
       have e1:Q=g:=(by simpa [Value.ownBlock] using hg);subst e1;exact He Q (.inl (by have M:=Le.out;have m:=V.out;omega)) e.symm) (by have:=H3.out;simp only [UB] at this ⊢;omega))
      go_wp2_with fail;refine K3.mono ?_;rintro e w9 ⟨v9,rfl,Jz,g9⟩;have J9:Hid (LB w9 w0.heap.size v9 (l0++(E.take (k+1)).flatMap (gK l f p))):=hid (by rw [G0.out,<- Vg];exact Jz);have J4:Hid (Gr w1 w9 bv v9):=hid (((Hg.trans (Gr.of_below Gx)).trans G).trans g9);clear Jz g9 K3 Kw Kx;go_wp2_with fail;go_roundw;case rel=>exact⟨k+1,Jq,oN,J9,J4⟩
      case measure=>exact oE
   ·obtain rfl:k=E.length:=oM;have HF:Hid (l0++(E.take E.length).flatMap (gK l f p)=l0++(kS l p l.length).flatMap (gK l f p)):=hid (by rw [Vn,Lh.out]);go_wp2_with fail;go_ret;exact⟨_,rfl,by rw [<- HF.out];exact Gk,(Gr.of_below (b:=bv) Gv).trans Hg⟩
def LvJ (w:Ur)(z0:Nat×Nat)(bd:Nat)(J:List Lf)(ul:List Rn):Prop:=∃N B c n D G L,JF w B J [] N c z0/\ c<=1048576/\ QcK w bd n D G L/\ Qdt L 8=ul/\ (∀r,L r≠[] ->0<=r/\ r<8)/\ (∀r,(L r).length<=4000)
theorem LvJ.bw(h:LvJ w z0 bd J ul)(hb:Bl w w'):LvJ w' z0 bd J ul:=by
 obtain⟨N,B,c,n,D,G,L,j,k,m,q⟩:=h;exact⟨N,B,c,n,D,G,L,⟨j.tre.bw hb,j.root,j.there⟩,k,m.bw hb,q⟩
theorem LvJ.far(h:LvJ w z0 bd J ul){t:Nat}{ty:TypeId}(m:∃v f,w.heap[t]? =Uq (.cells v ty f))(hty:ty≠226)(hg:w.grownBy w' (Uq t)):LvJ w' z0 bd J ul:=by
 obtain⟨N,B,c,n,D,G,L,k,s,u,A⟩:=h;obtain⟨v,f,m⟩:=m;refine⟨N,B,c,n,D,G,L,⟨k.tre.same fun p x hx=>⟨hg.block _ (k.tre.lt hx).1 (fun e=> ?_),hg.block _ (k.tre.lt hx).2 (fun e=> ?_)⟩,k.root,k.there⟩,s,u.gr hg (fun e=> ?_) (fun r g hrg e=> ?_),A⟩
 ·obtain⟨y,z,q⟩:=(k.tre.kids p x hx).obj;injection e with e;rw [e,m] at q;cases q
 ·obtain⟨y,z,q⟩:=(k.tre.marks p x hx).obj;injection e with e;rw [e,m] at q;cases q
 ·obtain⟨y,M,j,_⟩:=u.own;injection e with e;rw [e,m] at j;cases j
 ·rcases (u.rows r).2 with ⟨b,_⟩|⟨i,cap,O,E,_,j,_⟩
  ·rw [b] at hrg;cases hrg
  ·rw [E] at hrg;have o:i=g:=(by simpa [Value.ownBlock] using hrg);injection e with e;rw [o,e,m] at j;injection j with j;injection j with _ j;exact hty j
theorem QpR (w:Ur)(t:Nat)(u0 u1 u2:Value):w.grownBy (((w.setCell (Ub t) u0).setCell (Ua t 1) u1).setCell (Ua t 2) u2) (Uq t):=by
 have j:w.grownBy (w.setCell (Ub t) u0) (Uq t):=Qa6 w (Ub t) u0;have k:(w.setCell (Ub t) u0).grownBy ((w.setCell (Ub t) u0).setCell (Ua t 1) u1) (Uq t):=Qa6 _ (Ua t 1) u1;have m:((w.setCell (Ub t) u0).setCell (Ua t 1) u1).grownBy (((w.setCell (Ub t) u0).setCell (Ua t 1) u1).setCell (Ua t 2) u2) (Uq t):=Qa6 _ (Ua t 2) u2;exact(j.trans k).trans m
theorem QoD {S S':Sx}(h:StW S.R S.F S.T S.n S.l)(h':StW S'.R S'.F S'.T S'.n S'.l)(hl:(jnS S S').l.length<=1000):LvB (jnS S S').l:=
 ⟨fun i hi=>(Qiw h h' _ (Qao.2 ⟨i,hi,rfl⟩)).1,fun i hi=>(Qiw h h' _ (Qao.2 ⟨i,hi,rfl⟩)).2.1,fun i hi=>(Qiw h h' _ (Qao.2 ⟨i,hi,rfl⟩)).2.2.1,hl,Qjr h h'⟩
def QnQ (n:Nat)(A B:Nat ->Int)(i:Nat):Int:=if i<n then A i else B (i - n)
theorem QpY {S S':Sx}(h:StW S.R S.F S.T S.n S.l)(h':StW S'.R S'.F S'.T S'.n S'.l):QbT (QnQ S.n S.R S'.R) (QnQ S.n S.F S'.F) (QnQ S.n S.T S'.T) (S.n+S'.n) (jnS S S').l (jnS S S').l.length:=
 QpZ h h' fun z j=>by
  rcases j with j|j
  ·obtain⟨k,m,q,r,u⟩:=Qdo _ _ _ _ _ _ _ j;refine Qf1 (k:=k) oM ?_;unfold QnQ;rw [if_pos m,if_pos m,if_pos m];exact⟨q,r,u⟩
  ·obtain⟨k,m,q,r,u⟩:=Qdo _ _ _ _ _ _ _ j;refine Qf1 (k:=S.n+k) oM ?_;unfold QnQ;rw [if_neg oM,if_neg oM,if_neg oM,show S.n+k - S.n=k by omega];exact⟨q,r,u⟩
theorem Qq6 {x:Lf}(h:x.p.length<=8):(Way x).length<=8:=by unfold Way;rw [QaM];exact h
def OpA (w:Ur)(x0:Nat×Nat)(bm:Nat)(S:Sx):Prop:=∃n D G N B,n<=2000/\ QaH w bm n D G (Lk S.R S.F S.T S.n)/\ Tre w B N (Mk S.l S.l.length) (9*S.l.length)/\ N []=Uq x0/\ NkI S.l S.l.length N
theorem OpA.bw{S:Sx}(h:OpA w x0 bm S)(hb:Bl w w'):OpA w' x0 bm S:=by
 obtain⟨n,D,G,N,B,j,k,m,q,r⟩:=h;exact⟨n,D,G,N,B,j,k.bw hb,m.bw hb,q,r⟩
theorem Bx3.far{t:Nat}(h:Bx3 w b v0 v1 v2)(hg:w.grownBy w' (Uq t))(hne:b≠t):Bx3 w' b v0 v1 v2:=h.gr hg (fun k e=>by injection e with e;omega)
theorem Qj9{N:List Ky ->Option (Nat×Nat)}(h:NkI l l.length N)(h8:∀x∈l,x.p.length<=8):∀p,N p≠Up ->p.length<=8:=fun p hp=>by
 have k:(N p).isSome=true:=by
  cases hv:N p with
  | none=>exact absurd hv hp
  | some v=>rfl
 rcases (h p).1 k with e|⟨j,m,q⟩
 ·rw [e];simp
 ·exact Uw q.length_le (Qq6 (h8 _ (Qao.2 ⟨j,m,rfl⟩)))
theorem QoS{N:List Ky ->Option (Nat×Nat)}(h:NkI l l.length N){z:List Ky}{x:Lf}(hx:x∈l)(hp:z <+:Way x):N z≠Up:=fun hn=>by
 obtain⟨j,k,e⟩:=Qao.1 hx;have:=(h z).2 (.inr ⟨j,k,by rw [e];exact hp⟩);rw [hn] at this;cases this
theorem QkG {w0:Ur}{S S':Sx}(h:OpA w0 x0 bm S)(h':OpA w0 y0 bm' S')(hs:StW S.R S.F S.T S.n S.l)(hs':StW S'.R S'.F S'.T S'.n S'.l)(w:Ur)(hb:Bl w0 w):
  Cl 190 #[Uo #[.map (Uq x0.1),.map (Uq x0.2),.map (Uq bm)],Uo #[.map (Uq y0.1),.map (Uq y0.2),.map (Uq bm')]] w fun e w'=>(∃z0 N,e=Ui (Uo #[.map (Uq z0.1),.map (Uq z0.2)])/\ JF w' w.heap.size (jnS S S').l [] N (10*(9*S.l.length+9*S'.l.length)) z0)/\ Bl w w':=by
 obtain⟨J,D,G,N,B,L,t,O,E,v⟩:=h;obtain⟨K,V,Y,u,U,X,o,Q,M,g⟩:=h';have s:=hs.1;have A:=hs'.1;have H:JH w0 N u (Mk S.l S.l.length) (Mk S'.l S'.l.length) (9*S.l.length) (9*S'.l.length) bm bm' (fun d=>Qb6 S.R S.F S.T d.1 d.2 d.2 S.n) (fun d=>Qb6 S'.R S'.F S'.T d.1 d.2 d.2 S'.n) (jnS S S').l:=by
  refine⟨O.lower (Ux _),Q.lower (Ux _),fun w hw r q kl hk=> ?_,fun w hw r q kl hk=> ?_,fun z=>QoH hs hs' z,fun z y ha=> ?_⟩
  ·have:=QpV (t.bw hw) r q (Qd2 hk).1 (QbZ S.n s.1 r).1 (Uw (Qbx S.R S.F S.T S.n r) oM);rw [Qec] at this;exact this
  ·have:=QpV (o.bw hw) r q (Qd2 hk).1 (QbZ S'.n A.1 r).1 (Uw (Qbx S'.R S'.F S'.T S'.n r) oM);rw [Qec] at this;exact this
  ·obtain⟨x,k,j⟩:=ha;rcases Qee x k with m|m
   ·exact .inl (QoS v m j)
   ·exact .inr (QoS g m.1 j)
 have i:∀p,(N p≠Up \/u p≠Up) ->p.length<=8:=fun p j=>by
  rcases j with j|j
  ·exact Qj9 v (fun x k=>(QfN hs x k).2.2.2) p j
  ·exact Qj9 g (fun x k=>(QfN hs' x k).2.2.2) p j
 have Z:=hs.2.1;have I:=hs'.2.1;have:=QeO H i oM 8 [] rfl w hb;unfold QlL at this;rw [E,M] at this;exact this.mono fun e w' ⟨⟨z0,N1,e1,e2⟩,b⟩=>⟨⟨z0,N1,e1,e2⟩,b⟩
theorem Qjs{S S':Sx}(w:Ur)(h:OpA w x0 bm S)(h':OpA w y0 bm' S')(hs:StW S.R S.F S.T S.n S.l)(hs':StW S'.R S'.F S'.T S'.n S'.l):
  Cl 158 #[Uo #[.map (Uq x0.1),.map (Uq x0.2),.map (Uq bm)],Uo #[.map (Uq y0.1),.map (Uq y0.2),.map (Uq bm')]] w fun e w'=>(∃j k,e=Ui (Uo #[.map (Uq j.1),.map (Uq j.2),.map (Uq k)])/\ LvJ w' j k (jnS S S').l (jnU S S'))/\ Bl w w':=by
 have g:=hs.1;have o:=hs'.1;have hl:=hs.2.1;have He:=hs'.2.1;obtain⟨W,y⟩:=zE (((w.alloc (Uj #[.map (Uq x0.1),.map (Uq x0.2),.map (Uq bm)] 128)).alloc (Uj #[.map (Uq y0.1),.map (Uq y0.2),.map (Uq bm')] 128)).alloc (Uj #[.map Up,.map Up,.map Up] 128));have z:Bl w W:=y▸(Qad _ _ _).alloc oS _;have A0:Bx3 W w.heap.size (.map (Uq x0.1)) (.map (Uq x0.2)) (.map (Uq bm)):=by
  rw [<- y];exact((Bx3.made w _ _ _ _).bw (zO _ _) (Bx3.made w _ _ _ _).lt).bw (zO _ _) oS
 have B0:Bx3 W (w.heap.size+1) (.map (Uq y0.1)) (.map (Uq y0.2)) (.map (Uq bm')):=by
  rw [<- y];have:=Bx3.made (w.alloc (Uj #[.map (Uq x0.1),.map (Uq x0.2),.map (Uq bm)] 128)) (.map (Uq y0.1)) (.map (Uq y0.2)) (.map (Uq bm')) 128;exact(by simpa using this:Bx3 _ (w.heap.size+1) _ _ _).bw (zO _ _) oP
 have R0:Bx3 W (w.heap.size+1+1) (.map Up) (.map Up) (.map Up):=by
  rw [<- y];simpa using Bx3.made ((w.alloc (Uj #[.map (Uq x0.1),.map (Uq x0.2),.map (Uq bm)] 128)).alloc (Uj #[.map (Uq y0.1),.map (Uq y0.2),.map (Uq bm')] 128)) (.map Up) (.map Up) (.map Up) 128
 have Hb:=hid (fun w1 (m:Bl W w1)=>QkG (h.bw z) (h'.bw z) hs hs' w1 m);have Hd:Hid (∀w1,Bl W w1 ->Cl 191 #[.map (Uq bm),.map (Uq bm')] w1 fun e w'=>(∃k n D G L,e=Ui (.map (Uq k))/\ QcK w' k n D G L/\ Qdt L 8=jnU S S'/\ (∀r,L r≠[] ->0<=r/\ r<8)/\ (∀r,(L r).length<=4000))/\ Bl w1 w'):=hid (fun w1 m=>by
  obtain⟨nA,D,G,N,B,zA,g1,_⟩:=(h.bw z).bw m;obtain⟨nB,D',G',N',B',zB,g2,_⟩:=(h'.bw z).bw m;refine(Qn5 g1 g2 (fun r=>(QbZ S.n g.1 r).1) (fun r=>(QbZ S'.n o.1 r).1) (fun r=>Uw (Qbx S.R S.F S.T S.n r) g.2) (fun r=>Uw (Qbx S'.R S'.F S'.T S'.n r) o.2) (Uw g1.size_le zA) (Uw g2.size_le zB)).mono ?_;rintro e w3 ⟨k,P,D,G,L,rfl,Hn,O,i,b3⟩;refine⟨⟨k,P,D,G,L,rfl,O,(Qlv g.1 o.1 i.s (fun r x=>i.done r rfl x)).symm,fun r hr=> ?_,fun r=> ?_⟩,b3⟩
  ·obtain⟨x,hx⟩:=(i.s r).inh hr;rcases (i.done r rfl x).1 hx with h|h
   ·exact QcM S.n g.1 r (Qmo h)
   ·exact QcM S'.n o.1 r (Qmo h)
  ·have h1:=i.len r;have h2:=Qbx S.R S.F S.T S.n r;have h3:=Qbx S'.R S'.F S'.T S'.n r;omega)
 have p:=hid A0;have A:=hid B0;have I:=hid R0;have Hh:=hid z;have Hm:Hid (∃C f,W.heap[w.heap.size+1+1]? =Uq (.cells C 128 f)):=hid (by
  rw [<- y];have:=heap_alloc_new ((w.alloc (Uj #[.map (Uq x0.1),.map (Uq x0.2),.map (Uq bm)] 128)).alloc (Uj #[.map (Uq y0.1),.map (Uq y0.2),.map (Uq bm')] 128)) (Uj #[.map Up,.map Up,.map Up] 128);exact⟨_,_,oU this⟩)
 have Hj:=hid (And.intro hl He);have E:Hid (∀w',Bl W w' ->(w'.cell? (Ub w.heap.size)=Uq (.map (Uq x0.1))/\ w'.cell? (Ua w.heap.size 1)=Uq (.map (Uq x0.2))/\ w'.cell? (Ua w.heap.size 2)=Uq (.map (Uq bm))/\ w'.cell? (Ua (w.heap.size+1) 0)=Uq (.map (Uq y0.1))/\ w'.cell? (Ua (w.heap.size+1) 1)=Uq (.map (Uq y0.2))/\ w'.cell? (Ua (w.heap.size+1) 2)=Uq (.map (Uq bm')))):=hid (fun w' b=>by
  have U:=p.bw b p.lt;have V:=A.bw b A.lt;exact⟨U.c0,U.c1,U.c2,V.c0,V.c1,V.c2⟩)
 clear A0 B0 R0 z h h' hs hs' g o hl He;go_enter func158,ntmps158;go_wp2_with fail;try rw [y]
 clear y;refine zS E (fun qh=> ?_);refine tZ 0 5 ?_;refine tZ 1 6 ?_;refine tZ 3 8 ?_;refine tZ 4 9 ?_;refine tZ 5 10 ?_;refine tZ 6 11 ?_;refine cZ 2 ?_;intro K q;go_simp;refine(Hb _ zI.drew).mono ?_;rintro e w1 ⟨⟨j,N,rfl,jf⟩,m⟩;have M:Bl W w1:=⟨m.os,m.tape,m.output,m.size,m.block⟩;have H:=hid jf;clear jf;refine q.out _ _ (E _ M) (fun qh=> ?_);clear q K;try simp only [zP]
 refine cZ 7 ?_;intro K q;go_simp;refine(Hd _ M).mono ?_;rintro e Q ⟨⟨k,P,D,G,L,rfl,O,Hf,Hg,Ha⟩,X⟩;have u:=Qaa M X;have J:=I.bw u I.lt;have Hk:Hid (LvJ Q j k (jnS S S').l (jnU S S')):=hid ⟨N,_,_,P,D,G,L,⟨H.tre.bw X,H.root,H.there⟩,oH Hj,O,Hf,Hg,Ha⟩;clear O Hf Hg Ha;refine q.out _ _ (E _ u) (fun qh=> ?_);clear q K;try simp only [zP]
 refine tZ 8 13 ?_;obtain⟨t0,t1,t2,tf⟩:=J.p3;have Hl:=hid (J.set (.map (Uq j.1)) (.map (Uq j.2)) (.map (Uq k)));have Y:=hid ((p.bw u p.lt).far (QpR Q (w.heap.size+1+1) (.map (Uq j.1)) (.map (Uq j.2)) (.map (Uq k))) oM);have Z:=hid ((A.bw u A.lt).far (QpR Q (w.heap.size+1+1) (.map (Uq j.1)) (.map (Uq j.2)) (.map (Uq k))) oM);have Hc:=hid (Hk.far (t:=w.heap.size+1+1) (by obtain⟨C,f,e⟩:=Hm.out;exact⟨C,f,(u.block _ I.lt).trans e⟩) oD (QpR Q (w.heap.size+1+1) (.map (Uq j.1)) (.map (Uq j.2)) (.map (Uq k))));have Hi:=hid (Qaa Hh u);refine cZ 9 ?_;intro K q;go_simp;refine q.out _ _ ⟨Y.c0,Y.c1,Y.c2,Z.c0,Z.c1,Z.c2⟩ (fun qh=> ?_);clear q K;try simp only [zP]
 refine zD ?_;clear qh m M X u J t0 t1 t2 tf E Hb Hd;go_wp2_with fail;obtain⟨s0,s1,s2⟩:=Hl.q3;refine zF (v:=Uo #[.map (Uq j.1),.map (Uq j.2),.map (Uq k)]) (by simp [results,results158,go_sem,s0,s1,s2]) ?_;first|refine⟨⟨j.1,j.2,k,rfl,Hc⟩,?_⟩|refine⟨⟨j,k,rfl,Hc⟩,?_⟩
 exact((Hi.setCell oS _).setCell oS _).setCell oS _
theorem Qn6(w:Ur)(h:LvJ w z0 bd J ul)(hd:Dis J J.length)(h8:∀x∈J,x.p.length<=8)(hJ:J.length<=1048576)(hu:ul.length<=1048576):
  Cl 159 #[Uo #[.map (Uq z0.1),.map (Uq z0.2),.map (Uq bd)]] w (Rt w (Un (decide (J.length<=1000) && decide (ul.length<=1000)))):=by
 obtain⟨W,k⟩:=zE (w.alloc (Uj #[.map (Uq z0.1),.map (Uq z0.2),.map (Uq bd)] 128));have A:Bl w W:=k▸zO _ _;have s:Bx3 W w.heap.size (.map (Uq z0.1)) (.map (Uq z0.2)) (.map (Uq bd)):=k▸Bx3.made _ _ _ _ _;obtain⟨N,B,c,n,D,G,L,E,U,Y,Z,H,I⟩:=h.bw A;have v:=hid (Ql9 (E.tj hd) U hJ (fun x hx=>Qq6 (h8 x hx)) 8 [] z0 rfl E.root W zI);rw [QnO] at v;have q:=hid (fun w1 (j:Bl W w1)=>QmC (Y.bw j) H I);rw [Z] at q;have t:=hid A;have g:=hid s;obtain⟨T,k1⟩:=s.q2;obtain⟨m,K⟩:=zE J.length;obtain⟨u,X⟩:=zE ul.length;rw [K] at v hJ ⊢;rw [X] at q hu ⊢;obtain⟨V,M⟩:=zE ((decide (m<=1000) && decide (u<=1000)));rw [M];have b:=hid M;clear A s h E U Y Z H I hd h8 K X M;by_cases O:m<=1000
 ·have C:(m:Int)<=1000:=oM;by_cases Q:u<=1000
  ·have F:(u:Int)<=1000:=oM;have y:Hid (V=true):=hid (by rw [<- b.out];simp [O,Q]);go_enter func159,ntmps159;go_wp2_with fail;try rw [k]
   clear k;refine v.mono ?_;rintro e w1 ⟨rfl,j⟩;have R:=(g.bw j g.lt).c2;have r:=hid (Qaa t j);have i:=hid (q w1 j);clear j q;go_wp2_with fail;refine i.mono ?_;rintro e S ⟨rfl,z⟩;have o:=hid (Qaa r z);clear z;go_wp2_with fail;go_ret;exact⟨Qaz y.symm,o⟩
  ·have F:¬(u:Int)<=1000:=oM;have P:decide ((u:Int)<=1000)=false:=oU F;have y:Hid (V=false):=hid (by rw [<- b.out];simp [Q]);go_enter func159,ntmps159;go_wp2_with fail;try rw [k]
   clear k;refine v.mono ?_;rintro e w1 ⟨rfl,j⟩;have R:=(g.bw j g.lt).c2;have r:=hid (Qaa t j);have i:=hid (q w1 j);clear j q;go_wp2_with fail;refine i.mono ?_;rintro e S ⟨rfl,z⟩;have o:=hid (Qaa r z);clear z;go_wp2_with fail;go_ret;exact⟨Qaz y.symm,o⟩
 ·have C:¬(m:Int)<=1000:=oM;have P:decide ((m:Int)<=1000)=false:=oU C;have y:Hid (V=false):=hid (by rw [<- b.out];simp [O]);go_enter func159,ntmps159;go_wp2_with fail;try rw [k]
  clear k;refine v.mono ?_;rintro e w1 ⟨rfl,j⟩;have r:=hid (Qaa t j);clear j q;go_wp2_with fail;go_ret;exact⟨Qaz y.symm,r⟩
theorem LB.low(h:LB w lo v l)(hl:lo'<=lo):LB w lo' v l:=by
 obtain⟨P,Q,j,k⟩:=h;exact⟨P,Q,j.low hl,k⟩
theorem LB.set(h:LB w lo v l)(q:Us)(u:Value)(hq:q.block<lo):LB (w.setCell q u) lo v l:=
 h.move (by simp [UL]) (fun b h1 h2=>zH _ _ _ _ oM)
theorem FR.setLow{l:List Rn}(h:FR w B v l)(q:Us)(u:Value)(hq:q.block<B):FR (w.setCell q u) B v l:=
 h.setFar q u (fun e=>by have:=(World.ownsRow.lt h _ e).1;omega)
theorem SOw.of{S:Sx}(h:LB w lo (Uf a S.l.length c) S.l)(hf:FR w lo (Uf x S.n d) ul)(hn:S.n=ul.length)(hR:S.R=fun i=>(gR ul i).1)(hF:S.F=fun i=>(gR ul i).2.1)(hT:S.T=fun i=>(gR ul i).2.2)(hlo:lo<=w.heap.size):SOw w lo w.heap.size a x d S:=by
 obtain⟨P,Q,r,y⟩:=h;refine⟨fun w' k1 k2=>⟨?_,?_⟩,hlo,Uv _⟩
 ·have j:=r.move k1 k2;rcases j.row.2 with ⟨e,m⟩|⟨g,cap,v,e,_⟩
  ·exact .inl m
  ·have k:=j;rw [e] at k;injection e with e1 e2 e3;rw [e1];exact k.lcap rfl
 ·have u:FR w' lo (Uf x S.n d) ul:=Qap hf (fun q hq=>k2 q (World.ownsRow.lt hf q hq).1 (World.ownsRow.lt hf q hq).2);obtain⟨a',c',e,s,_,_⟩:=u.fs;injection e with e1 e2 e3;subst e1;rw [hn,hR,hF,hT];exact s.rseg
theorem SOw.emp (w:Ur)(a x:Option Us)(d lo:Nat)(hlo:lo<=w.heap.size):SOw w lo w.heap.size a x d Sx.mt:=SOw.mt w Sx.mt rfl rfl lo _ ⟨hlo,Uv _⟩ a x d
theorem Qme(w:Ur)(h:LvJ w z0 bd J ul)(hlv:QbT R F T m J J.length)(hbd:LvB J):
  Cl 110 #[Uo #[.map (Uq z0.1),.map (Uq z0.2),.map (Uq bd)]] w fun e w'=>(∃a c x d,e=Ui (Uo #[Uf a J.length c,Uf x ul.length d])/\ LB w' (w.heap.size+2) (Uf a J.length c) J/\ FR w' (w.heap.size+2) (Uf x ul.length d) ul/\ w.heap.size+2<=w'.heap.size)/\ Bl w w':=by
 obtain⟨W,y⟩:=zE ((w.alloc (Uj #[.map (Uq z0.1),.map (Uq z0.2),.map (Uq bd)] 128)).alloc (Uj #[Ue,Ue] 28));have Q:Bl w W:=y▸Qad _ _ _;have X:Bx3 W w.heap.size (.map (Uq z0.1)) (.map (Uq z0.2)) (.map (Uq bd)):=y▸(Bx3.made _ _ _ _ _).bw (zO _ _) (Bx3.made _ _ _ _ _).lt;have I:Bx2 W (w.heap.size+1) Ue Ue:=by rw [<- y];simpa using Bx2.made (w.alloc (Uj #[.map (Uq z0.1),.map (Uq z0.2),.map (Uq bd)] 128)) Ue Ue 28
 have zW:W.heap.size=w.heap.size+2:=y▸oP;obtain⟨N,B,c,n,D,G,L,j,V,C,P,S,h6⟩:=h.bw Q;have Ha:=j.tj hbd.dis;have Y:Hid (∀w1,Bl W w1 ->Cl 134 #[Uo #[.map (Uq z0.1),.map (Uq z0.2)],Ue,Ue] w1 fun e w'=>(∃a c,e=Ui (Uf a J.length c)/\ LB w' W.heap.size (Uf a J.length c) J)/\ Bl w1 w'):=hid (fun w1 q=>by
  have:=QcN J W B c N (oU j.tre) (Ha.nki (by rw [j.root];simp)) V hlv hbd 8 [] rfl oM Ue [] Ue w1 q (LB.nil w1 _) (.inl ⟨rfl,rfl⟩) (fun g hg=>by cases hg) (by rw [Qmm hlv];have:=hbd.len;simp;omega);rw [show Qac [] 3=([]:List Ky) from rfl,j.root] at this;refine this.mono ?_;rintro e w' ⟨v,rfl,z,g⟩;rw [Qmm hlv,VX] at z;obtain⟨a,c,rfl⟩:=z.form;exact⟨⟨a,c,rfl,z⟩,g.bw zL (fun k hk=>by cases hk)⟩)
 have Z:Hid (∀w1,Bl W w1 ->Cl 135 #[.map (Uq bd)] w1 fun e w'=>(∃x d,e=Ui (Uo #[Uf x ul.length d])/\ FR w' W.heap.size (Uf x ul.length d) ul)/\ Bl w1 w'):=hid (fun w1 q=>by
  have:=QiU (C.bw q) S h6;rw [P] at this;refine this.mono ?_;rintro e w' ⟨v,rfl,t,b⟩;obtain⟨a,c,rfl,_⟩:=t.fs;exact⟨⟨a,c,rfl,t.weak q.size⟩,b⟩)
 have i:=hid X;have H:=hid I;have Hb:=hid Q;have M:=hid zW;have o:Hid (∀w',Bl W w' ->(w'.cell? (Ub w.heap.size)=Uq (.map (Uq z0.1))/\ w'.cell? (Ua w.heap.size 1)=Uq (.map (Uq z0.2))/\ w'.cell? (Ua w.heap.size 2)=Uq (.map (Uq bd)))):=hid (fun w' b=>by
  have A:=i.bw b i.lt;exact⟨A.c0,A.c1,A.c2⟩)
 clear Q X I zW h j V C P S h6 Ha hlv hbd;go_enter func110,ntmps110;go_wp2_with fail;try rw [y]
 clear y;refine zS o (fun qh=> ?_);refine tZ 0 3 ?_;refine tZ 1 4 ?_;refine tZ 3 6 ?_;refine tZ 4 7 ?_;refine cZ 2 ?_;intro K r;go_simp;refine(Y _ zI.drew).mono ?_;rintro e w1 ⟨⟨a,c,rfl,z⟩,q⟩;have p:Bl W w1:=⟨q.os,q.tape,q.output,q.size,q.block⟩;have Hh:=hid z;clear z;refine r.out _ _ (o _ p) (fun qh=> ?_);clear r K;try simp only [zP]
 refine cZ 5 ?_;intro K r;go_simp;refine(Z _ p).mono ?_;rintro e s ⟨⟨x,d,rfl,t⟩,U⟩;have u:=Qaa p U;have He:=hid t;have Hf:=hid (Hh.bw U);have O:=H.bw u H.lt;clear t;refine r.out _ _ (o _ u) (fun qh=> ?_);clear r K;try simp only [zP]
 refine tZ 6 9 ?_;obtain⟨t0,t1,tf⟩:=O.p2;have Hi:=hid (O.set (Uf a J.length c) (Uf x ul.length d));have E:=hid (((i.bw u i.lt).far (Qa6 s (Ua (w.heap.size+1) 0) (Uf a J.length c)) oQ).far (Qa6 _ (Ua (w.heap.size+1) 1) (Uf x ul.length d)) oQ);have Hc:=hid (Qaa Hb u);have Hj:Hid (w.heap.size+2<=s.heap.size):=hid (by have j:=M.out;have V:=u.size;omega);have Hg:Hid (LB ((s.setCell (Ua (w.heap.size+1) 0) (Uf a J.length c)).setCell (Ua (w.heap.size+1) 1) (Uf x ul.length d)) (w.heap.size+2) (Uf a J.length c) J):=hid (by
  have j:=Hf.out;rw [M.out] at j;exact(j.set _ _ oQ).set _ _ oQ)
 have Hd:Hid (FR ((s.setCell (Ua (w.heap.size+1) 0) (Uf a J.length c)).setCell (Ua (w.heap.size+1) 1) (Uf x ul.length d)) (w.heap.size+2) (Uf x ul.length d) ul):=hid (by
  have j:=He.out;rw [M.out] at j;exact(j.setLow _ _ oQ).setLow _ _ oQ)
 refine cZ 7 ?_;intro K r;go_simp;refine r.out _ _ ⟨E.c0,E.c1,E.c2⟩ (fun qh=> ?_);clear r K;try simp only [zP]
 refine zD ?_;clear qh q p U u O t0 t1 tf o Y Z;go_wp2_with fail;obtain⟨s0,s1⟩:=Hi.q2;refine zF (v:=Uo #[Uf a J.length c,Uf x ul.length d]) (by simp [results,results110,go_sem,s0,s1]) ⟨⟨a,c,x,d,rfl,Hg,Hd,by simp [UL];have:=Hj.out;omega⟩,?_⟩;exact(Hc.setCell oP _).setCell oP _
theorem QoX (a x:Option Us)(c d:Nat)(S:Sx)(w:Ur)(hm:S.Sm)(hi:∀i,LfI (gL S.l i))(h:SAt w a x S):
  Cl 70 #[Uo #[Uf a S.l.length c,Uf x S.n d]] w fun e w'=>(∃u0 u1 u2,e=Ui (Ul #[Uo #[.map u0,.map u1,.map u2],Un (stB S)])/\ (stB S=true ->∃x0 j,u0=Uq (Prod.fst x0)/\ u1=Uq (Prod.snd x0)/\ u2=Uq j/\ OpA w' x0 j S))/\ Bl w w':=by
 cases hb:stB S with
 | true=>
  refine(QeU a c S.l x S.n d S.R S.F S.T w hm.l1 hm.p1 hi hm.n1 h.lf h.rn (Qd9 hb)).mono ?_;rintro e w' ⟨⟨x0,j,D,G,N,B,rfl,k,_,_,_,m,q,r⟩,b⟩;exact⟨⟨_,_,_,rfl,fun _=>⟨x0,j,rfl,rfl,rfl,S.n,D,G,N,B,(Qd9 hb).w.1.2,k,m,q,r⟩⟩,b⟩
 | false=>
  refine(Qep a c S.l x S.n d S.R S.F S.T w hm.l1 hm.p1 hi hm.n1 h.lf h.rn (Qqt hb)).mono ?_;rintro e w' ⟨rfl,b⟩;exact⟨⟨_,_,_,rfl,fun h=>by cases h⟩,b⟩
theorem Qjq (a x a' x':Option Us)(c d c' d':Nat)(S S':Sx)(w:Ur)(hm:S.Sm)(hm':S'.Sm)(hi:∀i,LfI (gL S.l i))(hi':∀i,LfI (gL S'.l i))(h:SAt w a x S)(h':SAt w a' x' S'):
  Cl 133 #[Uo #[Uf a S.l.length c,Uf x S.n d],Uo #[Uf a' S'.l.length c',Uf x' S'.n d']] w fun e w'=>∃q b u r,e=Ui (Ul #[Uo #[Uf q (jnZ S S').l.length b,Uf u (jnZ S S').n r],Un (jnB S S')])/\ SOw w' w.heap.size w'.heap.size q u r (jnZ S S')/\ Bl w w':=by
 obtain⟨W,g⟩:=zE (((w.alloc (Uj #[Uf a S.l.length c,Uf x S.n d] 28)).alloc (Uj #[Uf a' S'.l.length c',Uf x' S'.n d'] 28)).alloc (Uj #[Ue,Ue] 28));have K:Bl w W:=g▸(Qad _ _ _).alloc oS _;have A0:Bx2 W w.heap.size (Uf a S.l.length c) (Uf x S.n d):=g▸((Bx2.made w _ _ _).allocs _).allocs _;have B0:Bx2 W (w.heap.size+1) (Uf a' S'.l.length c') (Uf x' S'.n d'):=by
  rw [<- g];have:=Bx2.made (w.alloc (Uj #[Uf a S.l.length c,Uf x S.n d] 28)) (Uf a' S'.l.length c') (Uf x' S'.n d') 28;exact(by simpa using this:Bx2 _ (w.heap.size+1) _ _).allocs _
 have R0:Bx2 W (w.heap.size+1+1) Ue Ue:=by
  rw [<- g];simpa using Bx2.made ((w.alloc (Uj #[Uf a S.l.length c,Uf x S.n d] 28)).alloc (Uj #[Uf a' S'.l.length c',Uf x' S'.n d'] 28)) Ue Ue 28
 have zW:W.heap.size=w.heap.size+3:=g▸oP;have T:=hid (QoX a x c d S W hm hi (h.bw K));have Ha:=hid (fun w1 (L:Bl W w1)=>QoX a' x' c' d' S' w1 hm' hi' ((h'.bw K).bw L));have G:=hid B0;have Hs:=hid R0;have Y:=hid K;have H5:=hid zW;obtain⟨k0,k1⟩:=A0.q2;obtain⟨V,hV⟩:=zE (stB S);obtain⟨V',Hj⟩:=zE (stB S');have Hg:=hid hV;have Hb:=hid Hj;rw [hV] at T;rw [Hj] at Ha;clear K A0 B0 R0 zW h h' hV Hj hi hi';go_enter func133,ntmps133;go_wp2_with fail;try rw [g]
 clear g;refine T.mono ?_;rintro e w1 ⟨⟨u0,u1,u2,rfl,U⟩,L⟩;have Hq:=hid U;obtain⟨w2,N⟩:=zE (w1.alloc (Uj #[.map u0,.map u1,.map u2] 128));have b2:Bl w1 w2:=N▸zO _ _;have Hw:Hid (Bx3 w2 w1.heap.size (.map u0) (.map u1) (.map u2)):=hid (N▸Bx3.made _ _ _ _ _);have O:=hid (Qaa L b2);have Hd:=hid b2;have H3:=hid (Y.trans (O.mono Y.size));have l0:=(G.bw O G.lt).c0;have l1:=(G.bw O G.lt).c1;clear L b2 U k0 k1 T;go_wp2_with fail;try rw [N]
 clear N;refine(Ha w2 O).mono ?_;rintro e w3 ⟨⟨v0,v1,v2,rfl,U⟩,b3⟩;have Hr:=hid U;obtain⟨w4,X⟩:=zE (w3.alloc (Uj #[.map v0,.map v1,.map v2] 128));have b4:Bl w3 w4:=X▸zO _ _;have H0:Hid (Bx3 w4 w3.heap.size (.map v0) (.map v1) (.map v2)):=hid (X▸Bx3.made _ _ _ _ _);have He:=hid b4;have P:=hid (Qaa b3 b4);have Hv:=hid (Qaa O P);have A:=hid (Y.trans (Hv.mono Y.size));have k:=hid (Hs.bw Hv Hs.lt);clear b3 b4 U l0 l1 Ha;cases V with
 | false=>
  have j:Hid (jnB S S'=false/\ jnZ S S'=Sx.mt):=hid (by
   have e:jnB S S'=false:=(by unfold jnB;rw [Hg.out];rfl);exact⟨e,QgY e⟩)
  obtain⟨r0,r1⟩:=k.q2;have f0:=k.f 0;have f1:=k.f 1;have y:=hid (k.set Ue Ue);go_wp2_with fail;obtain⟨p,s⟩:=y.q2;refine zF (v:=Ul #[Uo #[Ue,Ue],Un false]) (by simp [results,results133,go_sem,p,s]) ⟨Up,0,Up,0,by rw [j.1,j.2];rfl,?_,?_⟩
  ·rw [j.2];exact SOw.emp _ _ _ _ _ (by simp [UL];exact A.size)
  ·exact(A.setCell oS _).setCell oS _
 | true=>
  cases V' with
  | false=>
   have j:Hid (jnB S S'=false/\ jnZ S S'=Sx.mt):=hid (by
    have e:jnB S S'=false:=(by unfold jnB;rw [Hb.out];simp);exact⟨e,QgY e⟩)
   obtain⟨r0,r1⟩:=k.q2;have f0:=k.f 0;have f1:=k.f 1;have y:=hid (k.set Ue Ue);go_wp2_with fail;obtain⟨p,s⟩:=y.q2;refine zF (v:=Ul #[Uo #[Ue,Ue],Un false]) (by simp [results,results133,go_sem,p,s]) ⟨Up,0,Up,0,by rw [j.1,j.2];rfl,?_,?_⟩
   ·rw [j.2];exact SOw.emp _ _ _ _ _ (by simp [UL];exact A.size)
   ·exact(A.setCell oS _).setCell oS _
  | true=>
   obtain⟨x0,bm,rfl,rfl,rfl,o1⟩:=Hq rfl;obtain⟨y0,H6,rfl,rfl,rfl,o3⟩:=Hr rfl;have t:=Qd9 Hg;have o:=Qd9 Hb;have M:=hid (Qjs w4 ((o1.bw Hd).bw P) (o3.bw He) t.w o.w);have Ho:Hid ((jnS S S').l.length<=2000/\ (jnU S S').length<=4000):=hid (QlJ t.w o.w);have H:=hid (And.intro (Qjr t.w o.w) (And.intro (fun x hx=>(Qiw t.w o.w x hx).2.2.2) (And.intro (QpY t.w o.w) (fun hl=>QoD t.w o.w hl))));have X2:=Hw.bw P Hw.lt;obtain⟨p0,p1,p2⟩:=X2.q3;obtain⟨q0,q1,m⟩:=H0.q3;clear o1 o3 t o X2 Hq Hr;go_wp2_with fail;try rw [X]
   clear X;refine M.mono ?_;rintro e w5 ⟨⟨F,bd,rfl,lv⟩,b5⟩;obtain⟨w6,C⟩:=zE (w5.alloc (Uj #[.map (Uq F.1),.map (Uq F.2),.map (Uq bd)] 128));have b6:Bl w5 w6:=C▸zO _ _;have X6:Bx3 w6 w5.heap.size (.map (Uq F.1)) (.map (Uq F.2)) (.map (Uq bd)):=C▸Bx3.made _ _ _ _ _;have Hx:=hid X6;have Hp:=hid (lv.bw b6);have Hc:=hid (Qaa b5 b6);have Hk:=hid (A.trans (Hc.mono A.size));have Ht:=hid (k.bw Hc k.lt);have I:=hid (Qn6 w6 Hp H.1 H.2.1 (oH Ho) (oH Ho));have Hm:Hid ((decide ((jnS S S').l.length<=1000) && decide ((jnU S S').length<=1000))=jnF S S'):=hid rfl;rw [Hm.out] at I;obtain⟨B,hB⟩:=zE (jnF S S');have R:=hid hB;rw [hB] at I;obtain⟨e0,e1,e2⟩:=X6.q3;clear lv b5 b6 X6 hB Hm p0 p1 p2 q0 q1 m M;go_wp2_with fail;try rw [C]
   clear C;refine I.mono ?_;rintro e D ⟨rfl,b7⟩;have Z:=hid (Hk.trans (b7.mono Hk.size));have z:=hid (Ht.bw b7 Ht.lt);have X7:=Hx.bw b7 Hx.lt;have Hf:=hid (Hp.bw b7);obtain⟨g0,g1,g2⟩:=X7.q3;clear b7 X7 e0 e1 e2 I;cases B with
   | false=>
    have j:Hid (jnB S S'=false/\ jnZ S S'=Sx.mt):=hid (by
     have e:jnB S S'=false:=(by unfold jnB;rw [R.out];simp);exact⟨e,QgY e⟩)
    obtain⟨r0,r1⟩:=z.q2;have f0:=z.f 0;have f1:=z.f 1;have y:=hid (z.set Ue Ue);go_wp2_with fail;obtain⟨p,s⟩:=y.q2;refine zF (v:=Ul #[Uo #[Ue,Ue],Un false]) (by simp [results,results133,go_sem,p,s]) ⟨Up,0,Up,0,by rw [j.1,j.2];rfl,?_,?_⟩
    ·rw [j.2];exact SOw.emp _ _ _ _ _ (by simp [UL];exact Z.size)
    ·exact(Z.setCell oS _).setCell oS _
   | true=>
    have j:Hid (jnB S S'=true/\ jnZ S S'=jnS S S'):=hid (by
     have e:jnB S S'=true:=(by unfold jnB;rw [R.out,Hg.out,Hb.out];rfl);exact⟨e,QmV e⟩)
    have Hu:=hid (Qme D Hf H.2.2.1 (H.2.2.2 (by have:=R.out;unfold jnF at this;simp at this;exact this.1)));obtain⟨J,Hh⟩:=zE ((jnS S S').l.length);obtain⟨E,Hi⟩:=zE ((jnU S S').length);rw [Hh,Hi] at Hu;have M:=hid Hh;have Hn:=hid Hi;clear Hh Hi;go_wp2_with fail;refine Hu.mono ?_;rintro e w8 ⟨⟨q,b,u,r,rfl,lb,fr,hz⟩,b8⟩;have Q:=z.bw b8 z.lt;obtain⟨r0,r1⟩:=Q.q2;have f0:=Q.f 0;have f1:=Q.f 1;have y:=hid (Q.set (Uf q J b) (Uf u E r));have Hl:=hid (Z.trans (b8.mono Z.size));have H1:Hid (w.heap.size+1+1<D.heap.size):=hid z.lt;have Hz:=hid lb;have Hy:=hid fr;have H4:=hid hz;clear lb fr hz b8 Q g0 g1 g2;go_wp2_with fail;obtain⟨p,s⟩:=y.q2;refine zF (v:=Ul #[Uo #[Uf q J b,Uf u E r],Un true]) (by simp [results,results133,go_sem,p,s]) ⟨q,b,u,r,by rw [j.1,j.2,M.out,show (jnS S S').n=E from Hn.out],?_,?_⟩
    ·rw [j.2];have H7:=H1.out;have H2:=Hl.size;have l9:=((Hz.set (Ua (w.heap.size+1+1) 0) (Uf q J b) oQ).set (Ua (w.heap.size+1+1) 1) (Uf u E r) oQ).low (show w.heap.size<=D.heap.size+2 by omega);have f9:=((Hy.setLow (Ua (w.heap.size+1+1) 0) (Uf q J b) oQ).setLow (Ua (w.heap.size+1+1) 1) (Uf u E r) oQ).weak (show w.heap.size<=D.heap.size+2 by omega);exact SOw.of (ul:=jnU S S') (by rw [M.out];exact l9) (by rw [show (jnS S S').n=E from Hn.out];exact f9) rfl rfl rfl rfl (by simp [UL];exact H2)
    ·exact(Hl.setCell oS _).setCell oS _
def JfP (S Y:Sx)(B:Bool)(w:Ur)(e:Ending)(w':Ur):Prop:=∃J ja jc jx jd er,e=Ui (Ul #[Uo #[Uf ja J.l.length jc,Uf jx J.n jd],er])/\ (B=true ->J=jnZ S Y)/\ (B=true/\ er=.nilIface \/B=false/\∃t u,er=.iface t u)/\ SOw w' w.heap.size w'.heap.size ja jx jd J/\ Bl w w'
theorem QkF (a x a' x':Option Us)(c d c' d':Nat)(S Y:Sx)(w:Ur)(hm:SmI S)(hm':SmI Y)(h:SAt w a x S)(h':SAt w a' x' Y)(t:TypeId)(u:Value)(V:w.cell? (Ub 6)=Uq (.iface t u)):
  Cl 109 #[Uo #[Uf a S.l.length c,Uf x S.n d],Uo #[Uf a' Y.l.length c',Uf x' Y.n d']] w fun e w'=>JfP S Y (jnB S Y && Qbq (jnZ S Y)) w e w':=by
 obtain⟨W,o⟩:=zE (((w.alloc (Uj #[Uf a S.l.length c,Uf x S.n d] 28)).alloc (Uj #[Uf a' Y.l.length c',Uf x' Y.n d'] 28)).alloc (Uj #[Ue,Ue] 28));have H:Bl w W:=o▸(Qad _ _ _).alloc oS _;have zW:W.heap.size=w.heap.size+3:=o▸oP;have A0:Bx2 W w.heap.size (Uf a S.l.length c) (Uf x S.n d):=o▸((Bx2.made w _ _ _).allocs _).allocs _;have D0:Bx2 W (w.heap.size+1) (Uf a' Y.l.length c') (Uf x' Y.n d'):=by
  rw [<- o];have:=Bx2.made (w.alloc (Uj #[Uf a S.l.length c,Uf x S.n d] 28)) (Uf a' Y.l.length c') (Uf x' Y.n d') 28;exact(by simpa using this:Bx2 _ (w.heap.size+1) _ _).allocs _
 have R0:Bx2 W (w.heap.size+1+1) Ue Ue:=by
  rw [<- o];simpa using Bx2.made ((w.alloc (Uj #[Uf a S.l.length c,Uf x S.n d] 28)).alloc (Uj #[Uf a' Y.l.length c',Uf x' Y.n d'] 28)) Ue Ue 28
 have HJ:=hid (Qjq a x a' x' c d c' d' S Y W hm.1 hm'.1 hm.2 hm'.2 (h.bw H) (h'.bw H));have Hd:=QhL S Y;obtain⟨J,I⟩:=zE (jnZ S Y);obtain⟨B,hB⟩:=zE (jnB S Y);obtain⟨F,hF⟩:=zE (Qbq J);rw [I,hB] at HJ;rw [I] at Hd;rw [hB];have Hf:(B && Qbq (jnZ S Y))=(B && F):=by rw [I,hF]
 rw [Hf];clear Hf;have HF:=hid hF;have Hg:=hid I;have P:Hid (6<w.heap.size):=hid (block_lt_of_cell V);have He:=hid ((H.cell (p:=(Ub 6)) (block_lt_of_cell V)).trans V);have O:=hid R0;have HB:=hid H;have HZ:Hid (w.heap.size+3<=W.heap.size):=hid oM;obtain⟨a0,a1⟩:=A0.q2;obtain⟨y0,D⟩:=D0.q2;clear H zW A0 D0 R0 h h' I hB hF V hm hm';go_enter func109,ntmps109;go_wp2_with fail;try rw [o]
 clear o;refine HJ.mono ?_;rintro e R ⟨s,A,M,E,rfl,o4,b4⟩;obtain⟨U,Q⟩:=zE (R.alloc (Uj #[Uf s J.l.length A,Uf M J.n E] 28));have b5:Bl R U:=Q▸zO _ _;have J5:Bx2 U R.heap.size (Uf s J.l.length A) (Uf M J.n E):=Q▸Bx2.made _ _ _ _;have HO:=hid (o4.bw b5);have T:=hid (Qaa b4 b5);have Hc:=hid J5;obtain⟨j0,j1⟩:=J5.q2;clear o4 b4 b5 J5 HJ a0 a1 y0 D;cases B with
 | false=>
  have y:=hid (Below.refl U.heap.size U);have j:=Qaa T y;have r:=O.bw j O.lt;have q:=hid r;have Z:=hid (Qaa HB j);have Ha:Hid (∀w',Bl U w' ->(w'.cell? (Ub 6)=Uq (.iface t u)/\ w'.cell? (Ua (w.heap.size+1+1) 0)=Uq Ue/\ w'.cell? (Ua (w.heap.size+1+1) 1)=Uq Ue/\ (∀i,w'.frozen? (Ua (w.heap.size+1+1) i)=false))):=hid (fun w' hb=>by
   have z:=q.bw hb q.lt;have hz:=HZ.out;exact⟨((Qaa j hb).cell (p:=(Ub 6)) (by have:=P.out;show 6<W.heap.size;omega)).trans He,z.c0,z.c1,z.f⟩)
  clear j r;go_wp2_with fail;try rw [Q]
  clear Q;refine zS Ha (fun qh=> ?_);refine tZ 0 21 ?_;refine tZ 1 22 ?_;obtain⟨z0,b⟩:=zE U.drew;have g:Bl U z0:=b▸zI.drew;rw [b] at qh ⊢;clear b;obtain⟨N,m2,m3,m4⟩:=qh;have k:=q.bw g q.lt;have m:=k.set Ue Ue;have D:=(k.set0 Ue).c1;have yf:=(k.set0 Ue).f;refine cZ 2 ?_;intro K L;go_simp;have V:=P.out;refine L.out _ _ ⟨(by rw [UJ _ _ _ _ oS,UJ _ _ _ _ oS];exact N),m.c0,m.c1,m.f⟩ (fun qh=> ?_);clear L K;try simp only [zP]
  refine tZ 3 5 ?_;refine zD ?_;obtain⟨x0,C⟩:=m.q2;have G:=hid (((Qaa Z g).setCell (p:=(Ua (w.heap.size+1+1) 0)) oS Ue).setCell (p:=(Ua (w.heap.size+1+1) 1)) oS Ue);clear k m D yf N m2 m3 m4 g;go_wp2_with fail;refine zF (v:=Ul #[Uo #[Ue,Ue],.iface t u]) (by simp [results,results109,go_sem,x0,C]) ?_;exact⟨Sx.mt,Up,0,Up,0,.iface t u,rfl,(fun h=>by cases h),.inr ⟨rfl,t,u,rfl⟩,SOw.mt _ Sx.mt rfl rfl _ _ ⟨G.size,Uv _⟩ _ _ _,G⟩
 | true=>
  have Hb:=hid (QpS s M A E J U Hd.2 Hd.1 HO.at);rw [HF.out] at Hb;go_wp2_with fail;try rw [Q]
  clear Q;refine Hb.mono ?_;rintro e X ⟨rfl,b6⟩;have y:=hid b6;clear b6 Hb;cases F with
  | false=>
   have j:=Qaa T y;have r:=O.bw j O.lt;have q:=hid r;have Z:=hid (Qaa HB j);have Ha:Hid (∀w',Bl X w' ->(w'.cell? (Ub 6)=Uq (.iface t u)/\ w'.cell? (Ua (w.heap.size+1+1) 0)=Uq Ue/\ w'.cell? (Ua (w.heap.size+1+1) 1)=Uq Ue/\ (∀i,w'.frozen? (Ua (w.heap.size+1+1) i)=false))):=hid (fun w' hb=>by
    have z:=q.bw hb q.lt;have hz:=HZ.out;exact⟨((Qaa j hb).cell (p:=(Ub 6)) (by have:=P.out;show 6<W.heap.size;omega)).trans He,z.c0,z.c1,z.f⟩)
   clear j r;go_wp2_with fail;refine zS Ha (fun qh=> ?_);refine tZ 0 21 ?_;refine tZ 1 22 ?_;obtain⟨z0,b⟩:=zE X.drew;have g:Bl X z0:=b▸zI.drew;rw [b] at qh ⊢;clear b;obtain⟨N,m2,m3,m4⟩:=qh;have k:=q.bw g q.lt;have m:=k.set Ue Ue;have D:=(k.set0 Ue).c1;have yf:=(k.set0 Ue).f;refine cZ 2 ?_;intro K L;go_simp;have V:=P.out;refine L.out _ _ ⟨(by rw [UJ _ _ _ _ oS,UJ _ _ _ _ oS];exact N),m.c0,m.c1,m.f⟩ (fun qh=> ?_);clear L K;try simp only [zP]
   refine tZ 3 5 ?_;refine zD ?_;obtain⟨x0,C⟩:=m.q2;have G:=hid (((Qaa Z g).setCell (p:=(Ua (w.heap.size+1+1) 0)) oS Ue).setCell (p:=(Ua (w.heap.size+1+1) 1)) oS Ue);clear k m D yf N m2 m3 m4 g;go_wp2_with fail;refine zF (v:=Ul #[Uo #[Ue,Ue],.iface t u]) (by simp [results,results109,go_sem,x0,C]) ?_;exact⟨Sx.mt,Up,0,Up,0,.iface t u,rfl,(fun h=>by cases h),.inr ⟨rfl,t,u,rfl⟩,SOw.mt _ Sx.mt rfl rfl _ _ ⟨G.size,Uv _⟩ _ _ _,G⟩
  | true=>
   have j:=Qaa T y;have r:=O.bw j O.lt;have J6:=Hc.bw y Hc.lt;obtain⟨j0,j1⟩:=J6.q2;obtain⟨r0,r1,rf⟩:=r.p2;have k:=hid (r.set (Uf s J.l.length A) (Uf M J.n E));have Z:=hid (Qaa HB j);have Hh:=hid (HO.bw y);have Hi:Hid (R.heap.size<=X.heap.size/\ W.heap.size<=X.heap.size):=hid ⟨by have h1:=y.size;have h2:=Hc.lt;omega,j.size⟩;clear j r J6;go_wp2_with fail;obtain⟨x0,C⟩:=k.q2;refine zF (v:=Ul #[Uo #[Uf s J.l.length A,Uf M J.n E],.nilIface]) (by simp [results,results109,go_sem,x0,C]) ?_;have hz:=HZ.out;have G1:=(Hh.set (Ua (w.heap.size+1+1) 0) (Uf s J.l.length A) (.inl (by show w.heap.size+1+1<_;omega))).set (Ua (w.heap.size+1+1) 1) (Uf M J.n E) (.inl (by show w.heap.size+1+1<_;omega));exact⟨J,s,A,M,E,.nilIface,rfl,fun _=>Hg.symm,.inl ⟨rfl,rfl⟩,G1.wide oM (by have:=Hi.out;simp [UL];omega) zL,(Z.setCell (p:=(Ua (w.heap.size+1+1) 0)) oS _).setCell (p:=(Ua (w.heap.size+1+1) 1)) oS _⟩
end Go.Proofs.YtmlmkaiibamabaaGreatDoor
