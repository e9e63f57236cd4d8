import Derived.Test.YtedpomikcaemgaaGreatDoorHshShel2
import Derived.Shelf.SlIter.Collect
import Derived.Sort.MapsRangeIn
import Derived.WalkSmall
import Derived.Shelf.SlSortCmp.NoneTotal
import Derived.RangeFuncBound
import Derived.Test.YtedpomikcaemgaaGreatDoorHsg04
import Derived.OwnWalk
import Derived.LaidEql
import Derived.Stop.Asserts
import Derived.RowKitTokens
import Derived.Stop.LaidTwo
set_option linter.unusedVariables false
set_option linter.unusedSimpArgs false
set_option maxRecDepth 100000
set_option maxHeartbeats 40000000
namespace Go.Proofs.YtedpomikcaemgaaGreatDoor
open Go.ChangeShapes Go.WideShapes Go.ChangeAt Go.RowKit Go.Maps Go.Sort Go.Lib Go.Shelf Go.Proofs.Tryz
open Go.Value renaming int → Ug, pointer → Uk, string → Um, bool → Un, agg → Uo, slice → Uf, tuple → Ul
open Go.IntKind renaming i64 → Uh
open Go.Ending renaming returned → Ui
open Go.Obj renaming cells → Uj
open Option renaming none → Up, some → Uq
open Go renaming World → Ur, Addr → Us
open List renaming size_toArray → VE, length_cons → Vh, length_nil → VF, push_toArray → VG, append_toArray → VH, nil_append → VI, cons_append → VJ, flatMap_cons → Vz, length_append → Vg, ext_getElem? → Ve, getElem?_eq_none → US, getElem?_take_of_lt → Vf, getElem?_take_eq_none → VK, eq_nil_of_length_eq_zero → VL, nodup_nil → VM, append_assoc → Vu, getElem?_map → VN, mem_of_getElem? → VO, take_add_one → VP, map_cons → Vm, take_length → VQ, flatMap_append → Vw, getD → UR, getElem_mem → UW, mem_singleton → UV, range → UT, map_map → VR, map_congr_left → Vr, getElem?_append_right → VS, mem_cons_self → Vt, mem_cons_of_mem → VT, flatMap_nil → VA, append_nil → VC, eq_nil_or_concat → VU, concat_eq_append → VV, pairwise_singleton → VW, ne_nil_of_mem → VX
open Nat renaming reduceAdd → VY, reduceSub → VZ, le_refl → Uu, le_trans → Ux, lt_or_ge → Ya, zero_le → Uv, lt_of_lt_of_le → Ut, le_of_not_lt → Yb, pow_succ → Va, mul_le_mul_right → Yc, pow_le_pow_right → Yd, eq_zero_or_pos → Vb, mul_comm → Ye, mul_assoc → Yf, add_sub_cancel → Uz, add_assoc → Uy
open _root_.Array renaming replicate_succ → Yg, replicate_zero → Yh, getElem?_toList → Yi, getElem?_eq_getElem → Yj, getElem?_modify → Yk, toArray_toList → Yl
open Go.World renaming grownBy_alloc → Ym, putObj_heap_other → Yn, putObj_heap_same → Yo, cell?_of_block → UB, alloc_heap_new → Yp, size_alloc → UD, frozen? → Yq, cell? → UE, ownsRow_nil → Yr, cell?_setCell_other → UI, cell?_setCell_same → UH, frozen?_setCell → UG, frozen?_of_block → Ys, setCell → UC, cell?_setCell_far → UF
open Go.IntKind renaming wrap_u64 → Yt, u8 → Yu
open Int renaming tmod_eq_emod_of_nonneg → Yv, natCast_nonneg → UZ, toNat_natCast → Yw, le_refl → Yx, lt_or_le → Yy, le_trans → Yz
open Option renaming bind_eq_bind → YA, bind_some → YB
variable {B V bm c cap cb g hi hi' i j k lo lo' m n p x':Nat}{F R T f:Nat ->Int}{L:Int ->List (Int×Int)}{U W zs:List Int}{a:Option Us}{aE aL aS aT:Us}{cur:Array Value}{e:TypeId}{fr:Nat×Nat}{l la lb:List (Int×Int)}{most r x y z:Int}{q:Int×Int}{s:ByteArray}{ts:List Ky}{v:Value}{w w' w1 w2:Ur}{xs:List Value}
theorem oW {zQ zR:Prop}(x:zR)(h:zR ->zQ:=by intro h;first | simpa using h | simpa using (Hid.out h)):zQ:=h x
theorem Qhk (n l Bm b nn:Nat)(f:Ky ->Option (Nat×Nat))(D0:DataW Value)(J:List Ky ->Ur ->Prop)(hn:1<=n)
  (hY:∀pre x W,J pre W ->pre.length<Maps.size D0 ->YieldAt Fence.wide (n - 1) prog l #[QaE x] W fun e W'=>e=Ui (Un true)/\ J (pre++[x]) W'/\ KeepsWalks W W')
  (W:Ur) (hJ:AbidesFrom W.heap.size J) (hm:W.cell? (Ub Bm)=Uq (.map (Uq b))) (hF:FM W 230 QaE Qbd b nn f D0) (h0:J [] W):
  CallsIn Fence.wide n prog 182 #[.func (.yield l) #[] #[],Uk (Uc Bm)] W fun e W'=>(∃v,e=Ui v)/\∃j,Qc6 f j/\ J j W':=by
 have D:=hF.own;have q:=hid hF;have u:=hid hJ;have Q:=hid hY;clear hF hJ hY;refine callsIn_of_wp func182 rfl trivial ?_ rfl;simp only [ntmps182,VE,Vh,VF,VY,VZ,Yg,Yh,VG,VH,VI,VJ];gi_wp2_with (first
  | (gi_at_range;refine wpListIn_range_own _ rfl _ 169 rfl 230 172 Qa4 underlying169 _ b nn _ rfl D ?_;intro w0 F I He)
  | gi_in)
 try go_frame
 gi_loopw [3] (fun _ wr=>∃(h:Lit ->Bool) (y:Nat) (j:List Ky),wr.ranges prog 230 QgL b W.heap.size nn D0 h y/\ j.length+y<=Maps.size D0/\ Qdq 230 QaE f h j/\ J j wr)
  (fun _ wr=>wr.rangeLeft b W.heap.size)
 case atStart=>exact⟨_,_,[],F,oP,Qdq.start q,u [] W w0 Up h0 I (fun r e=>by cases e)⟩
 case round=>
  obtain⟨h,y,j,z,E,p,s⟩:=hrel;have t:=hid p;have o:=hid E;clear p E;gi_wp2_with (first
   | (gi_at_next;refine wpListIn_next_ranges _ rfl _ rfl 230 Qa4 QgL QaE id (fun key T hk=>Qda hk) (fun v _ _=>⟨v,rfl⟩) b W.heap.size nn _ _ _ rfl z ?_ ?_)
   | gi_in)
  ·intro Hd X;gi_wp2
   go_end0;exact⟨⟨_,rfl⟩,j,t.done q X,s⟩
  ·intro xs k c T yd yp w2 U N B hv G P C K R H;have V:J j w2:=u j wr w2 (Uq W.heap.size) s K (fun r e=>by cases e;exact⟨Uu _,z.iter_walk⟩);obtain⟨g,m⟩:=zE (w2.alloc (Uj #[Um xs,Ud k] 230));have Y:J j g:=(by rw [<- m];exact u j w2 _ Up V (Ym w2 _ Up) (fun r e=>by cases e));obtain⟨fn,Hc,Ha,Hb,S,A⟩:=Q j (xs,k) g Y (oH o);have i:Bx2 g w2.heap.size (Um xs) (Ud k):=m▸Bx2.made _ _ _ _;have M:=P.alloc (Uj #[Um xs,Ud k] 230);rw [m] at M;obtain⟨q0,q1⟩:=i.q2;clear R i;dsimp only [QaE] at H S A ⊢;gi_wp2
   try rw [m]
   refine A.mono ?_;rintro e W3 ⟨rfl,Z,L⟩;gi_wp2
   have O:=M.of_walks L;go_roundw;case rel=>exact⟨_,U,j++[(xs,k)],O,by have:=o.out;simp;omega,t.step q Qa4 (fun _ _=>Qb1) N B G,Z⟩
   case measure=>rw [O.left_eq,z.left_eq];exact C
def kCells (x:Ky):List Value:=[Um x.1,Ud x.2]
def kRow (ss:List Ky):List Value:=ss.flatMap kCells
theorem Qel (ss:List Ky)(x:Ky):kRow (ss++[x])=kRow ss++kCells x:=by simp [kRow]
theorem Qn3:(prog.info? 230).map (fun i=>(i.zero,i.size,i.bytes))=Uq (Uq (Uo #[Um ByteArray.empty,Ud 0]),2,24):=oK
def apA:Code:=(Code.region 2 #[{dst:=Uq 5,op:=Op.alloc 230,type:=0,pos:= "iter.go:51",after:=#[],guard:=Up},{dst:=Up,op:=Op.store 230 (Operand.tmp 5) (Operand.tmp 7),type:=0,pos:= "iter.go:51",after:=#[{on:=0,ground:=Ground.data},{on:=0,ground:=Ground.phase}],guard:=Up}] false)
def apB:Code:=(Code.block 1 (Code.region 3 #[{dst:=Uq 8,op:=Op.load 226 (Operand.tmp 2),type:=226,pos:= "iter.go:52",after:=#[],guard:=Up},{dst:=Uq 9,op:=Op.load 230 (Operand.tmp 5),type:=230,pos:= "iter.go:52",after:=#[],guard:=Up},{dst:=Uq 10,op:=Op.buildSlice 226 1 #[(0,Operand.tmp 9)],type:=226,pos:= "iter.go:52",after:=#[{on:=1,ground:=Ground.data}],guard:=Up},{dst:=Uq 11,op:=Op.call {callee:=Callee.builtin Builtin.append,args:=#[Operand.tmp 8,Operand.tmp 10],argTypes:=#[226,226]},type:=226,pos:= "iter.go:52",after:=#[{on:=0,ground:=Ground.data},{on:=2,ground:=Ground.data}],guard:=Up},{dst:=Up,op:=Op.store 226 (Operand.tmp 2) (Operand.tmp 11),type:=0,pos:= "iter.go:52",after:=#[{on:=3,ground:=Ground.data},{on:=3,ground:=Ground.chain},{on:=0,ground:=Ground.phase},{on:=1,ground:=Ground.phase},{on:=2,ground:=Ground.phase},{on:=3,ground:=Ground.phase}],guard:=Up}] false))
def Qbr (fn:FuncId)(sv:Value)(Bs D:Nat)(st:LoopState):Loop:=
 {state:=st,pending:=Up,fn,tmps:=#[Ue,sv,Uk (Uc Bs),undef,Ue,undef,sv,undef,undef,undef,undef,undef,undef],params:=#[7],assign:=apA,body:=apB,defers:=D}
structure Qi1 (w0:Ur)(fn:FuncId)(sv:Value)(Bs l D:Nat)(ss:List Ky)(W:Ur):Prop where
 box:∃v,W.heap[Bs]? =Uq (Uj #[v] 226 (0,0))/\ W.ownsRow w0.heap.size 230 2 v ss.length (kRow ss)/\ (v=Ue↔ss=[])
 L:W.heap[l]? =Uq (.loop (Qbr fn sv Bs D .ready))
 K:W.heap[D]? =Uq (.deferred (Uq []))
 bw:Bl w0 W
theorem QbY (w0:Ur)(fn:FuncId)(sv:Value)(Bs l D B:Nat)(hB:w0.heap.size<=B):AbidesFrom B (Qi1 w0 fn sv Bs l D):=fun s W W' row h hg hrow=>by
 have j:∀r,row=Uq r ->∃o:Obj,W.heap[r]? =Uq o/\ o.isWalk=true:=fun r e=>(hrow r e).2;obtain⟨v,m,u,q⟩:=h.box;exact⟨⟨v,(grownBy_keeps hg j m rfl).trans m,ownsRow_abides_a u hg j,q⟩,(grownBy_keeps hg j h.L rfl).trans h.L,(grownBy_keeps hg j h.K rfl).trans h.K,h.bw.grown hg h.bw.size (fun k e=>Ux hB (hrow k e).1)⟩
theorem Qfr (m:Nat)(w0:Ur)(fn:FuncId)(sv:Value)(Bs l D:Nat)(hBl:Bs≠l)(hDl:D≠l)(hDB:D≠Bs)(h0B:w0.heap.size<=Bs)(h0l:w0.heap.size<=l)
    (N:Nat) (hN:N<=maxLen) (hNb:N*24<=140737488355328) (ss:List Ky) (x:Ky) (W:Ur) (h:Qi1 w0 fn sv Bs l D ss W) (hlen:ss.length<N):
    YieldAt Fence.wide m prog l #[QaE x] W fun e W'=>e=Ui (Un true)/\ Qi1 w0 fn sv Bs l D (ss++[x]) W'/\ KeepsWalks W W':=by
  have Hh:226≠230:=oD;obtain⟨i0,hi,Hr,Hs,Ht⟩:=info_parts Qn3;refine⟨fn,#[Ue,sv,Uk (Uc Bs),undef,Ue,undef,sv,QaE x,undef,undef,undef,undef,undef],apA,apB,by simpa [Qbr] using run_yield (P:=prog) (args:=#[QaE x]) h.L rfl,roundIn_of_wpIn trivial ?_⟩;obtain⟨xs,b⟩:=x;obtain⟨z,I⟩:=zE (W.alloc (Uj #[Um xs,Ud b] 230));have u:Qi1 w0 fn sv Bs l D ss z:=by rw [<- I];exact QbY w0 fn sv Bs l D w0.heap.size zL ss W _ Up h (Ym W _ Up) (fun r e=>by cases e)
  have Hg:KeepsWalks W z:=I▸KeepsWalks.alloc _ _;have s:Bx2 z W.heap.size (Um xs) (Ud b):=I▸Bx2.made _ _ _ _;have Hy:l<W.heap.size:=(Array.getElem?_eq_some_iff.1 h.L).1;obtain⟨v,hv,X,_⟩:=u.box;have hl:l<z.heap.size:=(Array.getElem?_eq_some_iff.1 u.L).1;have Hk:=run_beginRound (P:=prog) u.L rfl;obtain⟨q,t⟩:∃q,z.putObj l (.loop {Qbr fn sv Bs D .ready with state:=.busy})=q:=⟨_,rfl⟩;rw [t] at Hk;have O:z.grownBy q (Uq l):=t▸grownBy_putObj_a _ _ _;have Hm:KeepsWalks W q:=Hg.trans (t▸KeepsWalks.putObj _ u.L rfl);have V:q.heap[Bs]? =Uq (Uj #[v] 226 (0,0)):=t▸(Yn hBl).trans hv;have G:q.heap[D]? =Uq (.deferred (Uq [])):=t▸(Yn hDl).trans u.K;have H:q.heap[l]? =Uq (.loop {Qbr fn sv Bs D .ready with state:=.busy}):=t▸Yo hl;have B:q.ownsRow w0.heap.size 230 2 v ss.length (kRow ss):=X.kept O (ownsRow_ne_a X u.L (fun cur e=>by cases e));have M:Bl w0 q:=u.bw.grown O u.bw.size (fun k e=>by cases e;exact h0l);have Z:q.heap[W.heap.size]? =z.heap[W.heap.size]? :=O.block _ s.lt (fun e=>oI e);have q0:q.cell? (Ub W.heap.size)=Uq (Um xs):=(UB (a:=(Ub W.heap.size)) Z).trans s.c0;have q1:q.cell? (Ua W.heap.size 1)=Uq (Ud b):=(UB (a:=(Ua W.heap.size 1)) Z).trans s.c1;obtain⟨Hu,Hw⟩:=cell_of_box_a V;have Hb:Bs<q.heap.size:=(Array.getElem?_eq_some_iff.1 V).1;have Ho:l<q.heap.size:=(Array.getElem?_eq_some_iff.1 H).1;have Hc:D<q.heap.size:=(Array.getElem?_eq_some_iff.1 G).1;have ne_of:∀{j:Nat} {o:Obj},q.heap[j]? =Uq o ->(∀cur,o≠.cells cur 230 (0,0)) ->Uq j≠v.ownBlock:=fun hj hno=>by
    rcases ownsRow_ne_a B hj hno with e|e
    · rw [e];simp
    · exact fun e'=>e e'.symm
  have Y:=hid B;have HZ:=hid M.size;clear t X B s Z O Hg;unfold apA;dsimp only [QaE];gi_wp2_with gi_round_op_a
  unfold apB;gi_wp2_with (first
    | (gi_at_builtin;refine wpListIn_append_own _ rfl _ _ 226 rfl w0.heap.size 230 i0 (Uo #[Um ByteArray.empty,Ud 0]) 2 24 underlying226 hi Hr Hs Ht rfl oD _ _ _ rfl (Y.alloc _) (Ub q.heap.size) 1 1 [Um xs,Ud b] rfl rfl (cell_two_new _ _ _ _) (by simp [Value.oneCell']) oM oM (by have:=HZ.out;simp;omega) ?_;intro v' y J Hf Hi
       have C:y.heap[Bs]? =Uq (Uj #[v] 226 (0,0)):=(Hf.block Bs oS (ne_of V (fun cur e=>Hh (Obj.cells.inj e).2.1))).trans ((Below.heap_alloc _ _ Bs Hb).trans V)
       obtain⟨Hv,Hx⟩:=cell_of_box_a C
       obtain⟨i,g,A,rfl,Hd,Hl,Hz,H0,H1,H2⟩:∃i g A,v'=Uf (Uc i) (ss.length+1) g/\ w0.heap.size<=i/\ y.heap[i]? =Uq (.cells A 230 (0,0))/\ ss.length+1<=g/\ g<=maxLen/\ A.size=g*2/\ A.toList.take ((ss.length+1)*2)=kRow ss++[Um xs,Ud b]:=by
         rcases J.2 with ⟨_,h0⟩|h'
         · exact absurd h0 oM
         · exact h'
       have F:=hid J
       clear J
       try go_frame)
    | gi_round_op_a)
  have Q:(q.alloc (Uj #[Um xs,Ud b] 230)).grownBy y v.ownBlock:=Hf;have S:y.heap[l]? =Uq (.loop {Qbr fn sv Bs D .ready with state:=.busy}):=(Q.block l oS (ne_of H (fun cur e=>by cases e))).trans ((Below.heap_alloc _ _ l Ho).trans H);have R:y.heap[D]? =Uq (.deferred (Uq [])):=(Q.block D oS (ne_of G (fun cur e=>by cases e))).trans ((Below.heap_alloc _ _ D Hc).trans G);obtain⟨w4,p⟩:=zE (y.setCell (Ub Bs) (Uf (Uc i) (ss.length+1) g));rw [p];have U:y.grownBy w4 (Uq Bs):=p▸grownBy_setCell0_a _ _ _;have Hq:w4.heap[Bs]? =Uq (Uj #[Uf (Uc i) (ss.length+1) g] 226 (0,0)):=p▸heap_setCell_box_a _ C;have E:w4.heap[l]? =Uq (.loop {Qbr fn sv Bs D .ready with state:=.busy}):=(U.block l (Array.getElem?_eq_some_iff.1 S).1 (fun e=>hBl (by cases e;rfl))).trans S;have Hj:w4.heap[D]? =Uq (.deferred (Uq [])):=(U.block D (Array.getElem?_eq_some_iff.1 R).1 (fun e=>hDB (by cases e;rfl))).trans R;have Ha:=F.kept U (ownsRow_ne_a F C (fun cur e=>Hh (Obj.cells.inj e).2.1));have Hp:l<w4.heap.size:=(Array.getElem?_eq_some_iff.1 E).1;have T:Bl w0 y:=(M.alloc M.size _).grown Q (by have:=M.size;simp;omega) (fun k e=>(Y.lt k e).1);have He:Bl w0 w4:=T.grown U T.size (fun k e=>by cases e;exact h0B);have Hn:KeepsWalks W w4:=((Hm.trans (KeepsWalks.alloc _ _)).trans (KeepsWalks.of_grownBy Q (ownsRow_not_walk_a (Y.alloc _)))).trans (p▸KeepsWalks.setCell _ _ _);clear p;refine⟨_,_,run_endRound Up E,rfl,⟨⟨_,(Yn hBl).trans Hq,?_,oP⟩,Yo Hp,(Yn hDl).trans Hj,He.grown (grownBy_putObj_a _ _ _) He.size (fun k e=>by cases e;exact h0l)⟩,Hn.trans (KeepsWalks.putObj _ E rfl)⟩;have:=Ha.kept (grownBy_putObj_a w4 l (.loop {{Qbr fn sv Bs D .ready with state:=.busy} with state:=if (Up:Option Code).isNone then .ready else .done,pending:=Up})) (ownsRow_ne_a Ha E (fun cur e=>by cases e));rw [Qel];simpa [kCells] using this
theorem Qdr (n:Nat)(hn:2<=n)(g:Nat)(lb:Array Value)(eg:∀args w,(callFunc g args).run prog w=.ok (.enter g args) w)
  (S:List Ky ->Prop) (N:Nat) (hN:N<=maxLen) (hNb:N*24<=140737488355328) (w:Ur) (hseq:SeqGives Fence.wide (n - 1) prog g lb QaE S N w):
  CallsIn Fence.wide n prog 207 #[Ue,.func (.func g) #[] lb] w fun e w'=>∃(v:Value) (y:List Ky),e=Ui v/\ S y/\ w'.ownsRow w.heap.size 230 2 v y.length (kRow y)/\ (v=Ue↔y=[])/\ Bl w w':=by
 have F:226≠230:=oD;refine callsIn_of_wp_marks func207 rfl trivial ?_ rfl;simp only [ntmps207,VE,Vh,VF,VY,VZ,Yg,Yh,VG,VH,VI,VJ];gi_wp2
 refine wpIn_rangeFunc ?_;intro r D;obtain⟨j,t⟩:=zE (w.alloc (Uj #[Ue] 226));have G:j.heap.size=w.heap.size+1:=t▸oP;have I:j.heap[w.heap.size]? =Uq (Uj #[Ue] 226 (0,0)):=t▸Yp w _;have o:Bl w j:=t▸(RowKit.Below.refl _ w).alloc zL _;rw [t];obtain⟨m,z⟩:=zE ((j.alloc (.deferred (Uq []))).alloc (.loop (Qbr r (.func (.func g) #[] lb) w.heap.size j.heap.size .ready)));have Z:∀k,k<j.heap.size ->m.heap[k]? =j.heap[k]? :=fun k hk=>by
  rw [<- z];exact(Below.heap_alloc _ _ k oS).trans (Below.heap_alloc _ _ k hk)
 have i:Bl w m:=by rw [<- z];exact(o.alloc o.size _).alloc (by have:=o.size;simp;omega) _
 have U:Qi1 w r (.func (.func g) #[] lb) w.heap.size (j.heap.size+1) j.heap.size [] m:=
  ⟨⟨_,(Z w.heap.size oM).trans I,⟨rfl,.inl ⟨rfl,rfl⟩⟩,oP⟩,
   by rw [<- z];have:=Yp (j.alloc (.deferred (Uq []))) (.loop (Qbr r (.func (.func g) #[] lb) w.heap.size j.heap.size .ready));rwa [UD] at this,
   by rw [<- z];exact(Below.heap_alloc _ _ _ oP).trans (Yp j _),i⟩
 refine⟨j.heap.size+1,[{target:=.collected j.heap.size,args:=#[]}],m,{target:=.fn (.func g) lb,args:=#[.func (.yield (j.heap.size+1)) #[] #[]]},m,g,
  #[.func (.yield (j.heap.size+1)) #[] #[]]++lb,m,?_,?_,?_,?_,fun _=>oM,?_⟩
 ·rw [<- z];exact run_enterLoop_outer _ _ _ _ _
 ·simp [resolve,go_sem]
 ·intro f' B;trivial
 ·simp [invoke,go_sem,eg]
 ·refine(hseq (j.heap.size+1) (Qi1 w r (.func (.func g) #[] lb) w.heap.size (j.heap.size+1) j.heap.size) m i (QbY _ _ _ _ _ _ _ i.size)
   (fun pre x W hJ hl=>Qfr (n - 1 - 1) w r _ w.heap.size (j.heap.size+1) j.heap.size oM oM oM zL oM N hN hNb pre x W hJ hl) U).mono ?_
  rintro e s ⟨⟨v0,rfl⟩,y,V,u⟩;obtain⟨v,H,b,Y⟩:=u.box;have M:=run_endLoop (P:=prog) u.L (by simp [Qbr]);obtain⟨q,h⟩:∃q,s.putObj (j.heap.size+1) (.loop {Qbr r (.func (.func g) #[] lb) w.heap.size j.heap.size .ready with state:=.exhausted})=q:=⟨_,rfl⟩;rw [h] at M;have O:s.grownBy q (Uq (j.heap.size+1)):=h▸grownBy_putObj_a _ _ _;have J:q.heap[w.heap.size]? =Uq (Uj #[v] 226 (0,0)):=h▸(Yn oM).trans H;have A:q.heap[j.heap.size]? =Uq (.deferred (Uq [])):=h▸(Yn oM).trans u.K;have Q:=b.kept O (ownsRow_ne_a b u.L (fun cur e=>by cases e));have E:Bl w q:=u.bw.grown O u.bw.size (fun k e=>by cases e;omega);obtain⟨X,C⟩:=cell_of_box_a J;have p:=hid Q;clear h b Q;refine⟨Up,q,M,?_⟩;gi_wp2
  rw [<- G];refine⟨oP,.inl ⟨_,_,rfl,run_takeDeferred A,?_⟩⟩;exact⟨_,results_tmp rfl _ _ _,v,y,rfl,V,p.kept (grownBy_putObj_a _ _ _) (ownsRow_ne_a p A (fun cur e=>by cases e)),Y,E.grown (grownBy_putObj_a _ _ _) E.size (fun k e=>by cases e;omega)⟩
theorem Qfw (g:Nat)(lb:Array Value)(eg:∀args w,(callFunc g args).run prog w=.ok (.enter g args) w)
  (S:List Ky ->Prop) (N:Nat) (hN:N<=maxLen) (hNb:N*24<=140737488355328) (w:Ur) (hseq:SeqGives Fence.wide 4 prog g lb QaE S N w):
  Cl 180 #[.func (.func g) #[] lb] w fun e w'=>∃(v:Value) (j:List Ky),e=Ui v/\ S j/\ w'.ownsRow w.heap.size 230 2 v j.length (kRow j)/\ (v=Ue↔j=[])/\ Bl w w':=by
 have m:=hid ((callsIn_wide (n:=5)).1 (Qdr 5 oM g lb eg S N hN hNb w hseq));go_enter func180,ntmps180;go_wp2_with fail;refine m.mono ?_;rintro e w' ⟨v,j,rfl,q,y,u,r⟩;have k:=hid (And.intro q (And.intro y (And.intro u r)));clear q y u r m;go_wp2_with fail;go_ret;exact⟨v,j,rfl,k.1,k.2.1,k.2.2.1,k.2.2.2⟩
theorem Qdu (Bm b nn:Nat)(f:Ky ->Option (Nat×Nat))(D0:DataW Value)(w:Ur)(hBm:Bm<w.heap.size)(hm:w.cell? (Ub Bm)=Uq (.map (Uq b)))(hF:FM w 230 QaE Qbd b nn f D0):
  SeqGives Fence.wide 4 prog 182 #[Uk (Uc Bm)] QaE (Qc6 f) (Maps.size D0) w:=fun l J W hW hJ hY h0=>by
 have j:FM W 230 QaE Qbd b nn f D0:=⟨QbR hF.own (hW.block b hF.own.lt),hF.at',hF.cov,hF.ok⟩;exact Qhk 4 l Bm b nn f D0 J oM hY W hJ ((hW.cell (p:=(Ub Bm)) hBm).trans hm) j h0
theorem Qcc (x y:Ky)(w:Ur):Cl 161 #[Uo #[Um x.1,Ud x.2],Uo #[Um y.1,Ud y.2]] w fun e w'=>e=Ui (Ud (Qb9 x y))/\ Bw w w':=by
 obtain⟨s,k⟩:=x;obtain⟨q,m⟩:=y;dsimp only;obtain⟨W,u⟩:=zE ((w.alloc (Uj #[Um s,Ud k] 230)).alloc (Uj #[Um q,Ud m] 230));have b:Bw w W:=by rw [<- u];exact⟨Qak _ _ _,Uu _⟩
 have t:Bx2 W w.heap.size (Um s) (Ud k):=u▸(Bx2.made w _ _ _).allocs _;have o:Bx2 W (w.heap.size+1) (Um q) (Ud m):=by rw [<- u];simpa using Bx2.made (w.alloc (Uj #[Um s,Ud k] 230)) (Um q) (Ud m) 230
 have v:=hid b;have h:=hid t;have g:=hid o;clear b t o;go_enter func161,ntmps161;go_wp2_with fail;try rw [u]
 clear u;have z:Hid (∀w',Bw W w' ->(Bw W w'/\ w'.cell? (Ub w.heap.size)=Uq (Um s)/\ w'.cell? (Ua w.heap.size 1)=Uq (Ud k)/\ w'.cell? (Ua (w.heap.size+1) 0)=Uq (Um q)/\ w'.cell? (Ua (w.heap.size+1) 1)=Uq (Ud m))):=hid (fun w' r=>by
  have x0:=h.bw r.1 h.lt;have p:=g.bw r.1 g.lt;exact⟨r,x0.c0,x0.c1,p.c0,p.c1⟩)
 refine zA z ⟨zI.drew,Nat.le_succ _⟩ (fun qh=> ?_);refine tZ 0 5 ?_;refine tZ 1 6 ?_;refine tZ 2 7 ?_;refine tZ 3 8 ?_;refine tZ 5 10 ?_;refine tZ 6 11 ?_;refine tZ 7 12 ?_;refine tZ 8 13 ?_;refine cZ 4 ?_;intro K j;go_simp;refine(Qjp s q _).mono ?_;rintro e w1 ⟨rfl,rfl⟩;refine j.out _ _ qh (fun qh=> ?_);clear j K;try simp only [zP]
 refine cZ 9 ?_;intro K j;go_simp;refine(Qcb k m _).mono ?_;rintro e w2 ⟨rfl,rfl⟩;refine j.out _ _ qh (fun qh=> ?_);clear j K;try simp only [zP]
 refine cZ 10 ?_;intro K j;go_simp;have r:Bw W (W.drew.alloc (Uj #[Ud (QbM s q),Ud (QaV k m)] 3)):=⟨qh.1.1.alloc qh.1.1.size _,qh.1.2⟩;refine j.out _ _ (z _ r) (fun qh=> ?_);clear j K;try simp only [zP]
 refine cZ 11 ?_;intro K j;go_simp;refine(Qjn _ 2 2 (fun i=>if i=0 then QbM s q else QaV k m) _ oM (fun i hi=> ?_)).mono ?_
 ·match i,hi with
  | 0,_=>simp
  | 1,_=>simp
 rintro e E ⟨rfl,rfl⟩;refine j.out _ _ qh (fun qh=> ?_);clear j K;try simp only [zP]
 refine tZ 12 4 ?_;refine zD ?_;have A:Hid (Bw w (W.drew.alloc (Uj #[Ud (QbM s q),Ud (QaV k m)] 3))):=hid ⟨v.1.trans (qh.1.1.mono v.1.size),Ux v.2 qh.1.2⟩;clear qh r;go_wp2_with fail;go_ret;exact⟨QbG nz2,A⟩
instance:Inhabited Ky:=⟨(ByteArray.empty,0)⟩
theorem QbE (x:Ky):(kCells x).length=2:=rfl
theorem Qbj (ss:List Ky):(kRow ss).length=ss.length*2:=by
 induction ss with
 | nil=>rfl
 | cons x r ih=>simp only [kRow,Vz,Vg,Vh] at*;rw [ih,QbE];omega
theorem kRow_get:∀(ss:List Ky) (t:Nat),t<ss.length*2 ->(kRow ss)[t]? =Uq ((kCells ss.toArray[t/2]!)[t%2]!)
 | [],t,h=>by simp at h
 | x::r,t,h=>by
  rcases Ya t 2 with q|q
  ·have:t=0 \/t=1:=oM;rcases this with rfl|rfl<;>simp [kRow,kCells]
  ·obtain⟨u,rfl⟩:∃u,t=u+2:=⟨t - 2,oM⟩;have y:=kRow_get r u (by simp at h;omega);have j:(u+2)/2=u/2+1:=oM;have k:(u+2)%2=u%2:=oM;rw [j,k];have v:u/2<r.length:=(by simp at h;omega);have m:(x::r).toArray[u/2+1]! =r.toArray[u/2]! :=by
    rw [getElem!_pos _ _ oS,getElem!_pos _ _ (oW v)];simp
   rw [m,<- y];simp [kRow,kCells]
theorem Qec (ss:List Ky):(flatK kCells 2 ss.toArray).toList=kRow ss:=by
 apply Ve;intro t;by_cases h:t<ss.length*2
 ·rw [kRow_get ss t h];have j:t<(flatK kCells 2 ss.toArray).size:=oW h;have:=get_flatK kCells 2 ss.toArray t (oW h);rw [getElem!_pos _ t j] at this;rw [Yi,Yj j,this]
 ·rw [US oS,US (by rw [Qbj];omega)]
theorem Qce{os:Array Obj}(d:Array Value)(hb:w.heap[g]? =Uq (.cells cur e fr)):
  (grow (putRow id (Sort.ahead w n) g 0 d) os).heap[g]? =Uq (.cells (putCells id 0 d cur) e fr):=by
 have j:g<w.heap.size:=(Array.getElem?_eq_some_iff.1 hb).1;rw [heap_grow_old _ _ (by simpa [putRow,mapBlock,Sort.ahead] using j)];simp [putRow,mapBlock,Sort.ahead,Yk,hb,onCells]
theorem Qbs{os:Array Obj}(d:Array Value):w.grownBy (grow (putRow id (Sort.ahead w n) g 0 d) os) (Uq g):=by
 refine⟨rfl,rfl,rfl,by simp [grow,putRow,mapBlock,Sort.ahead],fun k hk hne=> ?_⟩;rw [heap_grow_old _ _ (by simpa [putRow,mapBlock,Sort.ahead] using hk)];have:g≠k:=fun e=>hne (by rw [e]);simp [putRow,mapBlock,Sort.ahead,Yk,this]
theorem QeG (cur:Array Value)(ts:List Value)(h:ts.length<=cur.size):(putCells id 0 ts.toArray cur).toList.take ts.length=ts:=by
 apply Ve;intro j;by_cases k:j<ts.length
 ·rw [Vf k,Yi];simp [putCells,k,show j<cur.size by omega]
 ·rw [VK oM,US oM]
theorem QgU:∀args w,(callFunc 161 args).run prog w=.ok (.enter 161 args) w:=enters_of func161 oK rfl
theorem Qfu (blk off size:Nat)(w:Ur):CmpLays prog 161 #[] kCells 2 Qb9 blk off size w:=fun m os dk _ x y=>
 (Qcc x y _).mono fun e w' ⟨he,hb⟩=>⟨he,hb.grown⟩
theorem QeB (B blk cap:Nat)(ss:List Ky)(w:Ur)(ho:w.ownsRow B 230 2 (Uf (Uc blk) ss.length cap) ss.length (kRow ss))(hsz:ss.length<=1048576):
  Cl 181 #[Uf (Uc blk) ss.length cap,.func (.func 161) #[] #[]] w fun e w'=>e=Ui (Ul #[])/\∃ts:List Ky,ts.Perm ss/\ SortedIn (ltOf Qb9) 0 ts.length ts.toArray/\ w'.ownsRow B 230 2 (Uf (Uc blk) ss.length cap) ss.length (kRow ts)/\ w.grownBy w' (Uq blk):=by
 rcases ho.2 with ⟨o,_⟩|⟨Y,V,z,q,E,m,i,b,p,s⟩
 ·cases o
 cases q;have M:blk<w.heap.size:=(Array.getElem?_eq_some_iff.1 m).1;have A:HoldsK kCells 2 w blk 0 ss.toArray:=by
  intro t U;have y:t<ss.length*2:=oW U;refine⟨?_,by simp [Yq,m]⟩;have k:(z.toList.take (ss.length*2))[t]? =(kRow ss)[t]? :=by rw [s]
  rw [Vf y,kRow_get ss t y] at k;have r:=get_flatK kCells 2 ss.toArray t (oW y);rw [r];simp only [UE,m,Nat.zero_add,Option.isSome_none,Bool.false_eq_true,if_false];rw [<- Yi,k];rfl
 have u:=AnyQ.slices_SortFunc Tryz.sortK 2 Tryz.isAgg230 Tryz.sizeOf230 kCells QbE (fun x v q=>by simp [kCells] at q;rcases q with rfl|rfl<;>rfl) Qb9 QaH.key.swo 161 #[] blk 0 cap ss.toArray w QgU (Qfu blk 0 _ w) A M oS;change Cl 181 _ _ _ at u;simp only [VE] at u;refine u.mono ?_;rintro e w' ⟨rfl,d',n,Z,h,Q,rfl⟩;have j:d'.size=ss.length:=oW h.1;have O:d'.toList.Perm ss:=by
  have:=h.2.2;have k:d'.extract 0 ss.length=d':=j▸oP;have r:ss.toArray.extract 0 ss.length=ss.toArray:=oP;rw [k,r] at this;simpa using this
 refine⟨rfl,d'.toList,O,by simpa [j] using Q,⟨by rw [Qbj];simp [j],.inr ⟨blk,cap,_,rfl,E,Qce _ m,i,b,by simp [putCells,p],?_⟩⟩,Qbs _⟩;have g:flatK kCells 2 d'=(kRow d'.toList).toArray:=by
  have:=Qec d'.toList;simp only [Yl] at this;rw [<- this]
 rw [g];have:=QeG z (kRow d'.toList) (by rw [Qbj];simp [j];omega);rw [Qbj] at this;simpa [j] using this
theorem Qdy(h:ts.Nodup)(hs:SortedIn (ltOf Qb9) 0 ts.length ts.toArray):ts.Pairwise (fun x y=>Qb9 x y<0):=by
 have:=QaH.key.rises (d:=ts.toArray) (by simpa using hs) (by simpa using h);simpa using this
theorem QcG (g:Nat)(lb:Array Value)(eg:∀args w,(callFunc g args).run prog w=.ok (.enter g args) w)(N:Nat)(f:Ky ->Option (Nat×Nat))(w:Ur)(hN:N<=1048576)(hseq:SeqGives Fence.wide 4 prog g lb QaE (Qc6 f) N w):
  Cl 159 #[.func (.func g) #[] lb,.func (.func 161) #[] #[]] w fun e w'=>∃(v:Value) (j:List Ky),e=Ui v/\ j.Pairwise (fun x y=>Qb9 x y<0)/\ (∀x,x∈j↔f x≠Up)/\ j.length<=1048576/\ w'.ownsRow w.heap.size 230 2 v j.length (kRow j)/\ Bl w w':=by
 have o:=hid (Qfw g lb eg _ N oL oM w (SeqGives.bounded hseq));go_enter func159,ntmps159;go_wp2_with fail;refine o.mono ?_;rintro e w1 ⟨v,b,rfl,⟨h,X⟩,q,H,t⟩;rcases q.2 with ⟨rfl,J⟩|⟨Z,cap,K,rfl,G,L,B,C,D,F⟩
 ·have I:b=[]:=VL J;subst I;have r:=hid t;have u:=hid h;have U:=hid q;have i:=AnyF.slices_SortFunc_none Tryz.sortK Up 0 (.func (.func 161) #[] #[]) w1;change Cl 181 _ _ _ at i;have m:=hid i;clear t h q o i;go_wp2_with fail;refine m.mono ?_;rintro e w2 ⟨rfl,rfl⟩;clear m;go_wp2_with fail;go_ret;exact⟨_,[],rfl,List.Pairwise.nil,fun x=>u.2 x,oP,U,r⟩
 ·have m:=hid (QeB w.heap.size Z cap b w1 q oM);have r:=hid t;have u:=hid h;have O:Hid (b.length<=1048576):=hid oM;have Y:=hid G;clear t h q o H;go_wp2_with fail;refine m.mono ?_;rintro e w2 ⟨rfl,j,A,E,s,p⟩;have Q:=hid s;have M:=hid (r.grown p r.size (fun k e=>by injection e with e;have:=Y.out;omega));have z:=hid A;have V:=hid E;clear s p A E m;go_wp2_with fail;go_ret;refine⟨_,j,rfl,Qdy (z.nodup_iff.2 u.1) V,fun x=>by rw [z.mem_iff];exact u.2 x,by rw [z.length_eq];exact O,?_,M⟩;rw [z.length_eq];exact Q
theorem Qf9 (n l Bm:Nat)(J:List Ky ->Ur ->Prop)(W:Ur)(hJ:AbidesFrom W.heap.size J)(hm:W.cell? (Ub Bm)=Uq (.map Up))(h0:J [] W):
  CallsIn Fence.wide n prog 182 #[.func (.yield l) #[] #[],Uk (Uc Bm)] W fun e W'=>(∃v,e=Ui v)/\∃ss:List Ky,Qc6 (fun _=>(Up:Option (Nat×Nat))) ss/\ J ss W':=by
 have k:=run_range_nilMap (P:=prog) W 169 230 172 underlying169;have j:∀ty,(Instr.next (Uk (Uc W.heap.size)) false ty).run prog (W.alloc (.mapIter Up 0 #[] 0))=_:=fun ty=>run_next_nilMap _ ty 0 0 #[];refine callsIn_of_wp func182 rfl trivial ?_ rfl;simp only [ntmps182,VE,Vh,VF,VY,VZ,Yg,Yh,VG,VH,VI,VJ];gi_wp2
 refine wpIn_loop_rounds 1 ?_;rw [roundsIn_succ];gi_wp2
 go_end0;exact⟨⟨_,rfl⟩,[],⟨VM,fun x=>oP⟩,hJ [] W _ Up h0 (Ym W _ Up) (fun r e=>by cases e)⟩
theorem Qhj (mb:Option Nat)(w:Ur):Cl 160 #[.map mb] w fun e w'=>e=Ui (.func (.func 182) #[] #[Uk (Uc w.heap.size)])/\ w'=w.alloc (Uj #[.map mb] 169):=by
 go_enter func160,ntmps160;go_wp2_with fail;go_ret;exact⟨rfl,rfl⟩
def QjS (N:List Ky ->Option (Nat×Nat))(p:List Ky)(y:Ky):Option (Nat×Nat):=N (p++[y])
theorem QcH (B c:Nat)(N:List Ky ->Option (Nat×Nat))(M:List Ky ->Dt ->Option ByteArray)(p:List Ky)(w:Ur)(hT:Tre w B N M c)(hc:c<=1048576):
  Cl 141 #[Uo #[.map (mF (N p)),.map (mS (N p))]] w fun e w'=>∃(v:Value) (j:List Ky),e=Ui v/\ j.Pairwise (fun x y=>Qb9 x y<0)/\ (∀x,x∈j↔QjS N p x≠Up)/\ j.length<=1048576/\ w'.ownsRow w.heap.size 230 2 v j.length (kRow j)/\ Bl w w':=by
 obtain⟨m,h⟩:=zE (mF (N p));obtain⟨K,I⟩:=zE (mS (N p));rw [h,I];have s:Hid (∀w1,Bl w w1 ->∀Bm,Bm<w1.heap.size ->w1.cell? (Ub Bm)=Uq (.map m) ->∃n,n<=1048576/\ SeqGives Fence.wide 4 prog 182 #[Uk (Uc Bm)] QaE (Qc6 (QjS N p)) n w1):=hid (fun w1 z Bm hBm k=>by
  cases e:N p with
  | some x=>
   obtain⟨D,U⟩:=(hT.bw z).kids p x e;have:m=Uq x.1:=(by rw [<- h,e];rfl);rw [this] at k;exact⟨Maps.size D,Ux U.own.size_le hc,Qdu Bm x.1 c _ D w1 hBm k U⟩
  | none=>
   have:m=Up:=(by rw [<- h,e];rfl);rw [this] at k;refine⟨0,oM,fun l J W q hJ hY h0=> ?_⟩;have P:QjS N p=fun _=>Up:=funext fun y=>hT.up p y e;rw [P];exact Qf9 4 l Bm J W hJ ((q.cell (p:=(Ub Bm)) hBm).trans k) h0)
 obtain⟨W,q⟩:=zE (w.alloc (Uj #[.map m,.map K] 172));have O:Bl w W:=q▸zO _ _;have E:Bx2 W w.heap.size (.map m) (.map K):=q▸Bx2.made _ _ _ _;have k0:=E.c0;have b:=hid O;clear hT O E h I;go_enter func141,ntmps141;go_wp2_with fail;try rw [q]
 clear q;refine(Qhj m W).mono ?_;rintro e w1 ⟨rfl,t⟩;have z:Bl W w1:=by rw [t];exact zO _ _
 have Q:w1.cell? (Ub W.heap.size)=Uq (.map m):=by rw [t];simp
 have L:W.heap.size<w1.heap.size:=by rw [t];simp
 have u:=hid (b.trans (z.mono b.size));obtain⟨n,S,H⟩:=s w1 u W.heap.size L Q;have A:=hid (QcG _ _ (enters_of func182 oK rfl) n (QjS N p) w1 S H);clear H t z Q L k0 s;go_wp2_with fail;refine A.mono ?_;rintro e w2 ⟨v,j,rfl,G,k,Y,Z,V⟩;have o:=hid (And.intro G (And.intro k Y));have X:=hid (u.trans (V.mono u.size));have C:Hid (w2.ownsRow w.heap.size 230 2 v j.length (kRow j)):=hid (by
  obtain⟨T,i⟩:=Z;refine⟨T,?_⟩;rcases i with i|⟨g,cap,F,e,R,r⟩
  ·exact .inl i
  ·exact .inr ⟨g,cap,F,e,Ux u.size R,r⟩)
 clear G k Y Z V A;go_wp2_with fail;go_ret;exact⟨v,j,rfl,o.1,o.2.1,o.2.2,C,X⟩
end Go.Proofs.YtedpomikcaemgaaGreatDoor
namespace Go.Proofs.YtedpomikcaemgaaGreatDoor.Ds
open Go.ChangeShapes Go.WideShapes Go.ChangeAt Go.RowKit Go.Maps Go.Sort Go.Lib Go.Shelf Go.Proofs.Tryz
open Go.Value renaming int → Ug, pointer → Uk, string → Um, bool → Un, agg → Uo, slice → Uf, tuple → Ul
open Go.IntKind renaming i64 → Uh
open Go.Ending renaming returned → Ui
open Go.Obj renaming cells → Uj
open Option renaming none → Up, some → Uq
open Go renaming World → Ur, Addr → Us
open List renaming size_toArray → VE, length_cons → Vh, length_nil → VF, push_toArray → VG, append_toArray → VH, nil_append → VI, cons_append → VJ, flatMap_cons → Vz, length_append → Vg, ext_getElem? → Ve, getElem?_eq_none → US, getElem?_take_of_lt → Vf, getElem?_take_eq_none → VK, eq_nil_of_length_eq_zero → VL, nodup_nil → VM, append_assoc → Vu, getElem?_map → VN, mem_of_getElem? → VO, take_add_one → VP, map_cons → Vm, take_length → VQ, flatMap_append → Vw, getD → UR, getElem_mem → UW, mem_singleton → UV, range → UT, map_map → VR, map_congr_left → Vr, getElem?_append_right → VS, mem_cons_self → Vt, mem_cons_of_mem → VT, flatMap_nil → VA, append_nil → VC, eq_nil_or_concat → VU, concat_eq_append → VV, pairwise_singleton → VW, ne_nil_of_mem → VX
open Nat renaming reduceAdd → VY, reduceSub → VZ, le_refl → Uu, le_trans → Ux, lt_or_ge → Ya, zero_le → Uv, lt_of_lt_of_le → Ut, le_of_not_lt → Yb, pow_succ → Va, mul_le_mul_right → Yc, pow_le_pow_right → Yd, eq_zero_or_pos → Vb, mul_comm → Ye, mul_assoc → Yf, add_sub_cancel → Uz, add_assoc → Uy
open _root_.Array renaming replicate_succ → Yg, replicate_zero → Yh, getElem?_toList → Yi, getElem?_eq_getElem → Yj, getElem?_modify → Yk, toArray_toList → Yl
open Go.World renaming grownBy_alloc → Ym, putObj_heap_other → Yn, putObj_heap_same → Yo, cell?_of_block → UB, alloc_heap_new → Yp, size_alloc → UD, frozen? → Yq, cell? → UE, ownsRow_nil → Yr, cell?_setCell_other → UI, cell?_setCell_same → UH, frozen?_setCell → UG, frozen?_of_block → Ys, setCell → UC, cell?_setCell_far → UF
open Go.IntKind renaming wrap_u64 → Yt, u8 → Yu
open Int renaming tmod_eq_emod_of_nonneg → Yv, natCast_nonneg → UZ, toNat_natCast → Yw, le_refl → Yx, lt_or_le → Yy, le_trans → Yz
open Option renaming bind_eq_bind → YA, bind_some → YB
variable {B V bm c cap cb g hi hi' i j k lo lo' m n p x':Nat}{F R T f:Nat ->Int}{L:Int ->List (Int×Int)}{U W zs:List Int}{a:Option Us}{aE aL aS aT:Us}{cur:Array Value}{e:TypeId}{fr:Nat×Nat}{l la lb:List (Int×Int)}{most r x y z:Int}{q:Int×Int}{s:ByteArray}{ts:List Ky}{v:Value}{w w' w1 w2:Ur}{xs:List Value}
theorem Qhk (n l Bm b nn:Nat)(f:Dt ->Option ByteArray)(D0:DataW Value)(J:List Dt ->Ur ->Prop)(hn:1<=n)
  (hY:∀pre x W,J pre W ->pre.length<Maps.size D0 ->YieldAt Fence.wide (n - 1) prog l #[dtV x] W fun e W'=>e=Ui (Un true)/\ J (pre++[x]) W'/\ KeepsWalks W W')
  (W:Ur) (hJ:AbidesFrom W.heap.size J) (hm:W.cell? (Ub Bm)=Uq (.map (Uq b))) (hF:FM W 115 dtV Qb2 b nn f D0) (h0:J [] W):
  CallsIn Fence.wide n prog 201 #[.func (.yield l) #[] #[],Uk (Uc Bm)] W fun e W'=>(∃v,e=Ui v)/\∃j,Qc6 f j/\ J j W':=by
 have D:=hF.own;have q:=hid hF;have u:=hid hJ;have Q:=hid hY;clear hF hJ hY;refine callsIn_of_wp func201 rfl trivial ?_ rfl;simp only [ntmps201,VE,Vh,VF,VY,VZ,Yg,Yh,VG,VH,VI,VJ];gi_wp2_with (first
  | (gi_at_range;refine wpListIn_range_own _ rfl _ 170 rfl 115 225 Qat underlying170 _ b nn _ rfl D ?_;intro w0 F I He)
  | gi_in)
 try go_frame
 gi_loopw [3] (fun _ wr=>∃(h:Lit ->Bool) (y:Nat) (j:List Dt),wr.ranges prog 115 QgL b W.heap.size nn D0 h y/\ j.length+y<=Maps.size D0/\ Qdq 115 dtV f h j/\ J j wr)
  (fun _ wr=>wr.rangeLeft b W.heap.size)
 case atStart=>exact⟨_,_,[],F,oP,Qdq.start q,u [] W w0 Up h0 I (fun r e=>by cases e)⟩
 case round=>
  obtain⟨h,y,j,z,E,p,s⟩:=hrel;have t:=hid p;have o:=hid E;clear p E;gi_wp2_with (first
   | (gi_at_next;refine wpListIn_next_ranges _ rfl _ rfl 115 Qat QgL dtV id (fun key T hk=>Qg2 hk) (fun v _ _=>⟨v,rfl⟩) b W.heap.size nn _ _ _ rfl z ?_ ?_)
   | gi_in)
  ·intro Hd X;gi_wp2
   go_end0;exact⟨⟨_,rfl⟩,j,t.done q X,s⟩
  ·intro xs k c T yd yp w2 U N B hv G P C K R H;have V:J j w2:=u j wr w2 (Uq W.heap.size) s K (fun r e=>by cases e;exact⟨Uu _,z.iter_walk⟩);obtain⟨g,m⟩:=zE (w2.alloc (Uj #[Ud xs,Ud k] 115));have Y:J j g:=(by rw [<- m];exact u j w2 _ Up V (Ym w2 _ Up) (fun r e=>by cases e));obtain⟨fn,Hc,Ha,Hb,S,A⟩:=Q j (xs,k) g Y (oH o);have i:Bx2 g w2.heap.size (Ud xs) (Ud k):=m▸Bx2.made _ _ _ _;have M:=P.alloc (Uj #[Ud xs,Ud k] 115);rw [m] at M;obtain⟨q0,q1⟩:=i.q2;clear R i;dsimp only [dtV,Qga] at H S A ⊢;gi_wp2
   try rw [m]
   refine A.mono ?_;rintro e W3 ⟨rfl,Z,L⟩;gi_wp2
   have O:=M.of_walks L;go_roundw;case rel=>exact⟨_,U,j++[(xs,k)],O,by have:=o.out;simp;omega,t.step q Qat (fun _ _=>Qc8) N B G,Z⟩
   case measure=>rw [O.left_eq,z.left_eq];exact C
def kCells (x:Dt):List Value:=[Ud x.1,Ud x.2]
def kRow (ss:List Dt):List Value:=ss.flatMap kCells
theorem Qel (ss:List Dt)(x:Dt):kRow (ss++[x])=kRow ss++kCells x:=by simp [kRow]
theorem Qpr:(prog.info? 115).map (fun i=>(i.zero,i.size,i.bytes))=Uq (Uq (Uo #[Ud 0,Ud 0]),2,16):=oK
def apA:Code:=(Code.region 2 #[{dst:=Uq 5,op:=Op.alloc 115,type:=0,pos:= "iter.go:51",after:=#[],guard:=Up},{dst:=Up,op:=Op.store 115 (Operand.tmp 5) (Operand.tmp 7),type:=0,pos:= "iter.go:51",after:=#[{on:=0,ground:=Ground.data},{on:=0,ground:=Ground.phase}],guard:=Up}] false)
def apB:Code:=(Code.block 1 (Code.region 3 #[{dst:=Uq 8,op:=Op.load 252 (Operand.tmp 2),type:=252,pos:= "iter.go:52",after:=#[],guard:=Up},{dst:=Uq 9,op:=Op.load 115 (Operand.tmp 5),type:=115,pos:= "iter.go:52",after:=#[],guard:=Up},{dst:=Uq 10,op:=Op.buildSlice 252 1 #[(0,Operand.tmp 9)],type:=252,pos:= "iter.go:52",after:=#[{on:=1,ground:=Ground.data}],guard:=Up},{dst:=Uq 11,op:=Op.call {callee:=Callee.builtin Builtin.append,args:=#[Operand.tmp 8,Operand.tmp 10],argTypes:=#[252,252]},type:=252,pos:= "iter.go:52",after:=#[{on:=0,ground:=Ground.data},{on:=2,ground:=Ground.data}],guard:=Up},{dst:=Up,op:=Op.store 252 (Operand.tmp 2) (Operand.tmp 11),type:=0,pos:= "iter.go:52",after:=#[{on:=3,ground:=Ground.data},{on:=3,ground:=Ground.chain},{on:=0,ground:=Ground.phase},{on:=1,ground:=Ground.phase},{on:=2,ground:=Ground.phase},{on:=3,ground:=Ground.phase}],guard:=Up}] false))
def Qbr (fn:FuncId)(sv:Value)(Bs D:Nat)(st:LoopState):Loop:=
 {state:=st,pending:=Up,fn,tmps:=#[Ue,sv,Uk (Uc Bs),undef,Ue,undef,sv,undef,undef,undef,undef,undef,undef],params:=#[7],assign:=apA,body:=apB,defers:=D}
structure Qi1 (w0:Ur)(fn:FuncId)(sv:Value)(Bs l D:Nat)(ss:List Dt)(W:Ur):Prop where
 box:∃v,W.heap[Bs]? =Uq (Uj #[v] 252 (0,0))/\ W.ownsRow w0.heap.size 115 2 v ss.length (kRow ss)/\ (v=Ue↔ss=[])
 L:W.heap[l]? =Uq (.loop (Qbr fn sv Bs D .ready))
 K:W.heap[D]? =Uq (.deferred (Uq []))
 bw:Bl w0 W
theorem QbY (w0:Ur)(fn:FuncId)(sv:Value)(Bs l D B:Nat)(hB:w0.heap.size<=B):AbidesFrom B (Qi1 w0 fn sv Bs l D):=fun s W W' row h hg hrow=>by
 have j:∀r,row=Uq r ->∃o:Obj,W.heap[r]? =Uq o/\ o.isWalk=true:=fun r e=>(hrow r e).2;obtain⟨v,m,u,q⟩:=h.box;exact⟨⟨v,(grownBy_keeps hg j m rfl).trans m,ownsRow_abides_a u hg j,q⟩,(grownBy_keeps hg j h.L rfl).trans h.L,(grownBy_keeps hg j h.K rfl).trans h.K,h.bw.grown hg h.bw.size (fun k e=>Ux hB (hrow k e).1)⟩
theorem Qfr (m:Nat)(w0:Ur)(fn:FuncId)(sv:Value)(Bs l D:Nat)(hBl:Bs≠l)(hDl:D≠l)(hDB:D≠Bs)(h0B:w0.heap.size<=Bs)(h0l:w0.heap.size<=l)
    (N:Nat) (hN:N<=maxLen) (hNb:N*16<=140737488355328) (ss:List Dt) (x:Dt) (W:Ur) (h:Qi1 w0 fn sv Bs l D ss W) (hlen:ss.length<N):
    YieldAt Fence.wide m prog l #[dtV x] W fun e W'=>e=Ui (Un true)/\ Qi1 w0 fn sv Bs l D (ss++[x]) W'/\ KeepsWalks W W':=by
  have Hh:252≠115:=oD;obtain⟨i0,hi,Hr,Hs,Ht⟩:=info_parts Qpr;refine⟨fn,#[Ue,sv,Uk (Uc Bs),undef,Ue,undef,sv,dtV x,undef,undef,undef,undef,undef],apA,apB,by simpa [Qbr] using run_yield (P:=prog) (args:=#[dtV x]) h.L rfl,roundIn_of_wpIn trivial ?_⟩;obtain⟨xs,b⟩:=x;obtain⟨z,I⟩:=zE (W.alloc (Uj #[Ud xs,Ud b] 115));have u:Qi1 w0 fn sv Bs l D ss z:=by rw [<- I];exact QbY w0 fn sv Bs l D w0.heap.size zL ss W _ Up h (Ym W _ Up) (fun r e=>by cases e)
  have Hg:KeepsWalks W z:=I▸KeepsWalks.alloc _ _;have s:Bx2 z W.heap.size (Ud xs) (Ud b):=I▸Bx2.made _ _ _ _;have Hy:l<W.heap.size:=(Array.getElem?_eq_some_iff.1 h.L).1;obtain⟨v,hv,X,_⟩:=u.box;have hl:l<z.heap.size:=(Array.getElem?_eq_some_iff.1 u.L).1;have Hk:=run_beginRound (P:=prog) u.L rfl;obtain⟨q,t⟩:∃q,z.putObj l (.loop {Qbr fn sv Bs D .ready with state:=.busy})=q:=⟨_,rfl⟩;rw [t] at Hk;have O:z.grownBy q (Uq l):=t▸grownBy_putObj_a _ _ _;have Hm:KeepsWalks W q:=Hg.trans (t▸KeepsWalks.putObj _ u.L rfl);have V:q.heap[Bs]? =Uq (Uj #[v] 252 (0,0)):=t▸(Yn hBl).trans hv;have G:q.heap[D]? =Uq (.deferred (Uq [])):=t▸(Yn hDl).trans u.K;have H:q.heap[l]? =Uq (.loop {Qbr fn sv Bs D .ready with state:=.busy}):=t▸Yo hl;have B:q.ownsRow w0.heap.size 115 2 v ss.length (kRow ss):=X.kept O (ownsRow_ne_a X u.L (fun cur e=>by cases e));have M:Bl w0 q:=u.bw.grown O u.bw.size (fun k e=>by cases e;exact h0l);have Z:q.heap[W.heap.size]? =z.heap[W.heap.size]? :=O.block _ s.lt (fun e=>oI e);have q0:q.cell? (Ub W.heap.size)=Uq (Ud xs):=(UB (a:=(Ub W.heap.size)) Z).trans s.c0;have q1:q.cell? (Ua W.heap.size 1)=Uq (Ud b):=(UB (a:=(Ua W.heap.size 1)) Z).trans s.c1;obtain⟨Hu,Hw⟩:=cell_of_box_a V;have Hb:Bs<q.heap.size:=(Array.getElem?_eq_some_iff.1 V).1;have Ho:l<q.heap.size:=(Array.getElem?_eq_some_iff.1 H).1;have Hc:D<q.heap.size:=(Array.getElem?_eq_some_iff.1 G).1;have ne_of:∀{j:Nat} {o:Obj},q.heap[j]? =Uq o ->(∀cur,o≠.cells cur 115 (0,0)) ->Uq j≠v.ownBlock:=fun hj hno=>by
    rcases ownsRow_ne_a B hj hno with e|e
    · rw [e];simp
    · exact fun e'=>e e'.symm
  have Y:=hid B;have HZ:=hid M.size;clear t X B s Z O Hg;unfold apA;dsimp only [dtV,Qga];gi_wp2_with gi_round_op_a
  unfold apB;gi_wp2_with (first
    | (gi_at_builtin;refine wpListIn_append_own _ rfl _ _ 252 rfl w0.heap.size 115 i0 (Uo #[Ud 0,Ud 0]) 2 16 underlying252 hi Hr Hs Ht rfl oD _ _ _ rfl (Y.alloc _) (Ub q.heap.size) 1 1 [Ud xs,Ud b] rfl rfl (cell_two_new _ _ _ _) (by simp [Value.oneCell']) oM oM (by have:=HZ.out;simp;omega) ?_;intro v' y J Hf Hi
       have C:y.heap[Bs]? =Uq (Uj #[v] 252 (0,0)):=(Hf.block Bs oS (ne_of V (fun cur e=>Hh (Obj.cells.inj e).2.1))).trans ((Below.heap_alloc _ _ Bs Hb).trans V)
       obtain⟨Hv,Hx⟩:=cell_of_box_a C
       obtain⟨i,g,A,rfl,Hd,Hl,Hz,H0,H1,H2⟩:∃i g A,v'=Uf (Uc i) (ss.length+1) g/\ w0.heap.size<=i/\ y.heap[i]? =Uq (.cells A 115 (0,0))/\ ss.length+1<=g/\ g<=maxLen/\ A.size=g*2/\ A.toList.take ((ss.length+1)*2)=kRow ss++[Ud xs,Ud b]:=by
         rcases J.2 with ⟨_,h0⟩|h'
         · exact absurd h0 oM
         · exact h'
       have F:=hid J
       clear J
       try go_frame)
    | gi_round_op_a)
  have Q:(q.alloc (Uj #[Ud xs,Ud b] 115)).grownBy y v.ownBlock:=Hf;have S:y.heap[l]? =Uq (.loop {Qbr fn sv Bs D .ready with state:=.busy}):=(Q.block l oS (ne_of H (fun cur e=>by cases e))).trans ((Below.heap_alloc _ _ l Ho).trans H);have R:y.heap[D]? =Uq (.deferred (Uq [])):=(Q.block D oS (ne_of G (fun cur e=>by cases e))).trans ((Below.heap_alloc _ _ D Hc).trans G);obtain⟨w4,p⟩:=zE (y.setCell (Ub Bs) (Uf (Uc i) (ss.length+1) g));rw [p];have U:y.grownBy w4 (Uq Bs):=p▸grownBy_setCell0_a _ _ _;have Hq:w4.heap[Bs]? =Uq (Uj #[Uf (Uc i) (ss.length+1) g] 252 (0,0)):=p▸heap_setCell_box_a _ C;have E:w4.heap[l]? =Uq (.loop {Qbr fn sv Bs D .ready with state:=.busy}):=(U.block l (Array.getElem?_eq_some_iff.1 S).1 (fun e=>hBl (by cases e;rfl))).trans S;have Hj:w4.heap[D]? =Uq (.deferred (Uq [])):=(U.block D (Array.getElem?_eq_some_iff.1 R).1 (fun e=>hDB (by cases e;rfl))).trans R;have Ha:=F.kept U (ownsRow_ne_a F C (fun cur e=>Hh (Obj.cells.inj e).2.1));have Hp:l<w4.heap.size:=(Array.getElem?_eq_some_iff.1 E).1;have T:Bl w0 y:=(M.alloc M.size _).grown Q (by have:=M.size;simp;omega) (fun k e=>(Y.lt k e).1);have He:Bl w0 w4:=T.grown U T.size (fun k e=>by cases e;exact h0B);have Hn:KeepsWalks W w4:=((Hm.trans (KeepsWalks.alloc _ _)).trans (KeepsWalks.of_grownBy Q (ownsRow_not_walk_a (Y.alloc _)))).trans (p▸KeepsWalks.setCell _ _ _);clear p;refine⟨_,_,run_endRound Up E,rfl,⟨⟨_,(Yn hBl).trans Hq,?_,oP⟩,Yo Hp,(Yn hDl).trans Hj,He.grown (grownBy_putObj_a _ _ _) He.size (fun k e=>by cases e;exact h0l)⟩,Hn.trans (KeepsWalks.putObj _ E rfl)⟩;have:=Ha.kept (grownBy_putObj_a w4 l (.loop {{Qbr fn sv Bs D .ready with state:=.busy} with state:=if (Up:Option Code).isNone then .ready else .done,pending:=Up})) (ownsRow_ne_a Ha E (fun cur e=>by cases e));rw [Qel];simpa [kCells] using this
theorem Qdr (n:Nat)(hn:2<=n)(g:Nat)(lb:Array Value)(eg:∀args w,(callFunc g args).run prog w=.ok (.enter g args) w)
  (S:List Dt ->Prop) (N:Nat) (hN:N<=maxLen) (hNb:N*16<=140737488355328) (w:Ur) (hseq:SeqGives Fence.wide (n - 1) prog g lb dtV S N w):
  CallsIn Fence.wide n prog 227 #[Ue,.func (.func g) #[] lb] w fun e w'=>∃(v:Value) (y:List Dt),e=Ui v/\ S y/\ w'.ownsRow w.heap.size 115 2 v y.length (kRow y)/\ (v=Ue↔y=[])/\ Bl w w':=by
 have F:252≠115:=oD;refine callsIn_of_wp_marks func227 rfl trivial ?_ rfl;simp only [ntmps227,VE,Vh,VF,VY,VZ,Yg,Yh,VG,VH,VI,VJ];gi_wp2
 refine wpIn_rangeFunc ?_;intro r D;obtain⟨j,t⟩:=zE (w.alloc (Uj #[Ue] 252));have G:j.heap.size=w.heap.size+1:=t▸oP;have I:j.heap[w.heap.size]? =Uq (Uj #[Ue] 252 (0,0)):=t▸Yp w _;have o:Bl w j:=t▸(RowKit.Below.refl _ w).alloc zL _;rw [t];obtain⟨m,z⟩:=zE ((j.alloc (.deferred (Uq []))).alloc (.loop (Qbr r (.func (.func g) #[] lb) w.heap.size j.heap.size .ready)));have Z:∀k,k<j.heap.size ->m.heap[k]? =j.heap[k]? :=fun k hk=>by
  rw [<- z];exact(Below.heap_alloc _ _ k oS).trans (Below.heap_alloc _ _ k hk)
 have i:Bl w m:=by rw [<- z];exact(o.alloc o.size _).alloc (by have:=o.size;simp;omega) _
 have U:Qi1 w r (.func (.func g) #[] lb) w.heap.size (j.heap.size+1) j.heap.size [] m:=
  ⟨⟨_,(Z w.heap.size oM).trans I,⟨rfl,.inl ⟨rfl,rfl⟩⟩,oP⟩,
   by rw [<- z];have:=Yp (j.alloc (.deferred (Uq []))) (.loop (Qbr r (.func (.func g) #[] lb) w.heap.size j.heap.size .ready));rwa [UD] at this,
   by rw [<- z];exact(Below.heap_alloc _ _ _ oP).trans (Yp j _),i⟩
 refine⟨j.heap.size+1,[{target:=.collected j.heap.size,args:=#[]}],m,{target:=.fn (.func g) lb,args:=#[.func (.yield (j.heap.size+1)) #[] #[]]},m,g,
  #[.func (.yield (j.heap.size+1)) #[] #[]]++lb,m,?_,?_,?_,?_,fun _=>oM,?_⟩
 ·rw [<- z];exact run_enterLoop_outer _ _ _ _ _
 ·simp [resolve,go_sem]
 ·intro f' B;trivial
 ·simp [invoke,go_sem,eg]
 ·refine(hseq (j.heap.size+1) (Qi1 w r (.func (.func g) #[] lb) w.heap.size (j.heap.size+1) j.heap.size) m i (QbY _ _ _ _ _ _ _ i.size)
   (fun pre x W hJ hl=>Qfr (n - 1 - 1) w r _ w.heap.size (j.heap.size+1) j.heap.size oM oM oM zL oM N hN hNb pre x W hJ hl) U).mono ?_
  rintro e s ⟨⟨v0,rfl⟩,y,V,u⟩;obtain⟨v,H,b,Y⟩:=u.box;have M:=run_endLoop (P:=prog) u.L (by simp [Qbr]);obtain⟨q,h⟩:∃q,s.putObj (j.heap.size+1) (.loop {Qbr r (.func (.func g) #[] lb) w.heap.size j.heap.size .ready with state:=.exhausted})=q:=⟨_,rfl⟩;rw [h] at M;have O:s.grownBy q (Uq (j.heap.size+1)):=h▸grownBy_putObj_a _ _ _;have J:q.heap[w.heap.size]? =Uq (Uj #[v] 252 (0,0)):=h▸(Yn oM).trans H;have A:q.heap[j.heap.size]? =Uq (.deferred (Uq [])):=h▸(Yn oM).trans u.K;have Q:=b.kept O (ownsRow_ne_a b u.L (fun cur e=>by cases e));have E:Bl w q:=u.bw.grown O u.bw.size (fun k e=>by cases e;omega);obtain⟨X,C⟩:=cell_of_box_a J;have p:=hid Q;clear h b Q;refine⟨Up,q,M,?_⟩;gi_wp2
  rw [<- G];refine⟨oP,.inl ⟨_,_,rfl,run_takeDeferred A,?_⟩⟩;exact⟨_,results_tmp rfl _ _ _,v,y,rfl,V,p.kept (grownBy_putObj_a _ _ _) (ownsRow_ne_a p A (fun cur e=>by cases e)),Y,E.grown (grownBy_putObj_a _ _ _) E.size (fun k e=>by cases e;omega)⟩
theorem Qfw (g:Nat)(lb:Array Value)(eg:∀args w,(callFunc g args).run prog w=.ok (.enter g args) w)
  (S:List Dt ->Prop) (N:Nat) (hN:N<=maxLen) (hNb:N*16<=140737488355328) (w:Ur) (hseq:SeqGives Fence.wide 4 prog g lb dtV S N w):
  Cl 199 #[.func (.func g) #[] lb] w fun e w'=>∃(v:Value) (j:List Dt),e=Ui v/\ S j/\ w'.ownsRow w.heap.size 115 2 v j.length (kRow j)/\ (v=Ue↔j=[])/\ Bl w w':=by
 have m:=hid ((callsIn_wide (n:=5)).1 (Qdr 5 oM g lb eg S N hN hNb w hseq));go_enter func199,ntmps199;go_wp2_with fail;refine m.mono ?_;rintro e w' ⟨v,j,rfl,q,y,u,r⟩;have k:=hid (And.intro q (And.intro y (And.intro u r)));clear q y u r m;go_wp2_with fail;go_ret;exact⟨v,j,rfl,k.1,k.2.1,k.2.2.1,k.2.2.2⟩
theorem Qdu (Bm b nn:Nat)(f:Dt ->Option ByteArray)(D0:DataW Value)(w:Ur)(hBm:Bm<w.heap.size)(hm:w.cell? (Ub Bm)=Uq (.map (Uq b)))(hF:FM w 115 dtV Qb2 b nn f D0):
  SeqGives Fence.wide 4 prog 201 #[Uk (Uc Bm)] dtV (Qc6 f) (Maps.size D0) w:=fun l J W hW hJ hY h0=>by
 have j:FM W 115 dtV Qb2 b nn f D0:=⟨QbR hF.own (hW.block b hF.own.lt),hF.at',hF.cov,hF.ok⟩;exact Qhk 4 l Bm b nn f D0 J oM hY W hJ ((hW.cell (p:=(Ub Bm)) hBm).trans hm) j h0
theorem Qcc (x y:Dt)(w:Ur):Cl 175 #[Uo #[Ud x.1,Ud x.2],Uo #[Ud y.1,Ud y.2]] w fun e w'=>e=Ui (Ud (Qbg x y))/\ Bw w w':=by
 obtain⟨s,k⟩:=x;obtain⟨q,m⟩:=y;dsimp only;obtain⟨W,u⟩:=zE ((w.alloc (Uj #[Ud s,Ud k] 115)).alloc (Uj #[Ud q,Ud m] 115));have b:Bw w W:=by rw [<- u];exact⟨Qak _ _ _,Uu _⟩
 have t:Bx2 W w.heap.size (Ud s) (Ud k):=u▸(Bx2.made w _ _ _).allocs _;have o:Bx2 W (w.heap.size+1) (Ud q) (Ud m):=by rw [<- u];simpa using Bx2.made (w.alloc (Uj #[Ud s,Ud k] 115)) (Ud q) (Ud m) 115
 have v:=hid b;have h:=hid t;have g:=hid o;clear b t o;go_enter func175,ntmps175;go_wp2_with fail;try rw [u]
 clear u;have z:Hid (∀w',Bw W w' ->(Bw W w'/\ w'.cell? (Ub w.heap.size)=Uq (Ud s)/\ w'.cell? (Ua w.heap.size 1)=Uq (Ud k)/\ w'.cell? (Ua (w.heap.size+1) 0)=Uq (Ud q)/\ w'.cell? (Ua (w.heap.size+1) 1)=Uq (Ud m))):=hid (fun w' r=>by
  have x0:=h.bw r.1 h.lt;have p:=g.bw r.1 g.lt;exact⟨r,x0.c0,x0.c1,p.c0,p.c1⟩)
 refine zA z ⟨zI.drew,Nat.le_succ _⟩ (fun qh=> ?_);refine tZ 0 5 ?_;refine tZ 1 6 ?_;refine tZ 2 7 ?_;refine tZ 3 8 ?_;refine tZ 5 10 ?_;refine tZ 6 11 ?_;refine tZ 7 12 ?_;refine tZ 8 13 ?_;refine cZ 4 ?_;intro K j;go_simp;refine(Qcb s q _).mono ?_;rintro e w1 ⟨rfl,rfl⟩;refine j.out _ _ qh (fun qh=> ?_);clear j K;try simp only [zP]
 refine cZ 9 ?_;intro K j;go_simp;refine(Qcb k m _).mono ?_;rintro e w2 ⟨rfl,rfl⟩;refine j.out _ _ qh (fun qh=> ?_);clear j K;try simp only [zP]
 refine cZ 10 ?_;intro K j;go_simp;have r:Bw W (W.drew.alloc (Uj #[Ud (QaV s q),Ud (QaV k m)] 3)):=⟨qh.1.1.alloc qh.1.1.size _,qh.1.2⟩;refine j.out _ _ (z _ r) (fun qh=> ?_);clear j K;try simp only [zP]
 refine cZ 11 ?_;intro K j;go_simp;refine(Qjn _ 2 2 (fun i=>if i=0 then QaV s q else QaV k m) _ oM (fun i hi=> ?_)).mono ?_
 ·match i,hi with
  | 0,_=>simp
  | 1,_=>simp
 rintro e E ⟨rfl,rfl⟩;refine j.out _ _ qh (fun qh=> ?_);clear j K;try simp only [zP]
 refine tZ 12 4 ?_;refine zD ?_;have A:Hid (Bw w (W.drew.alloc (Uj #[Ud (QaV s q),Ud (QaV k m)] 3))):=hid ⟨v.1.trans (qh.1.1.mono v.1.size),Ux v.2 qh.1.2⟩;clear qh r;go_wp2_with fail;go_ret;exact⟨QbG nz2,A⟩
theorem QbE (x:Dt):(kCells x).length=2:=rfl
theorem Qbj (ss:List Dt):(kRow ss).length=ss.length*2:=by
 induction ss with
 | nil=>rfl
 | cons x r ih=>simp only [kRow,Vz,Vg,Vh] at*;rw [ih,QbE];omega
theorem kRow_get:∀(ss:List Dt) (t:Nat),t<ss.length*2 ->(kRow ss)[t]? =Uq ((kCells ss.toArray[t/2]!)[t%2]!)
 | [],t,h=>by simp at h
 | x::r,t,h=>by
  rcases Ya t 2 with q|q
  ·have:t=0 \/t=1:=oM;rcases this with rfl|rfl<;>simp [kRow,kCells]
  ·obtain⟨u,rfl⟩:∃u,t=u+2:=⟨t - 2,oM⟩;have y:=kRow_get r u (by simp at h;omega);have j:(u+2)/2=u/2+1:=oM;have k:(u+2)%2=u%2:=oM;rw [j,k];have v:u/2<r.length:=(by simp at h;omega);have m:(x::r).toArray[u/2+1]! =r.toArray[u/2]! :=by
    rw [getElem!_pos _ _ oS,getElem!_pos _ _ (oW v)];simp
   rw [m,<- y];simp [kRow,kCells]
theorem Qec (ss:List Dt):(flatK kCells 2 ss.toArray).toList=kRow ss:=by
 apply Ve;intro t;by_cases h:t<ss.length*2
 ·rw [kRow_get ss t h];have j:t<(flatK kCells 2 ss.toArray).size:=oW h;have:=get_flatK kCells 2 ss.toArray t (oW h);rw [getElem!_pos _ t j] at this;rw [Yi,Yj j,this]
 ·rw [US oS,US (by rw [Qbj];omega)]
theorem Qce{os:Array Obj}(d:Array Value)(hb:w.heap[g]? =Uq (.cells cur e fr)):
  (grow (putRow id (Sort.ahead w n) g 0 d) os).heap[g]? =Uq (.cells (putCells id 0 d cur) e fr):=by
 have j:g<w.heap.size:=(Array.getElem?_eq_some_iff.1 hb).1;rw [heap_grow_old _ _ (by simpa [putRow,mapBlock,Sort.ahead] using j)];simp [putRow,mapBlock,Sort.ahead,Yk,hb,onCells]
theorem Qbs{os:Array Obj}(d:Array Value):w.grownBy (grow (putRow id (Sort.ahead w n) g 0 d) os) (Uq g):=by
 refine⟨rfl,rfl,rfl,by simp [grow,putRow,mapBlock,Sort.ahead],fun k hk hne=> ?_⟩;rw [heap_grow_old _ _ (by simpa [putRow,mapBlock,Sort.ahead] using hk)];have:g≠k:=fun e=>hne (by rw [e]);simp [putRow,mapBlock,Sort.ahead,Yk,this]
theorem QeG (cur:Array Value)(ts:List Value)(h:ts.length<=cur.size):(putCells id 0 ts.toArray cur).toList.take ts.length=ts:=by
 apply Ve;intro j;by_cases k:j<ts.length
 ·rw [Vf k,Yi];simp [putCells,k,show j<cur.size by omega]
 ·rw [VK oM,US oM]
theorem QgU:∀args w,(callFunc 175 args).run prog w=.ok (.enter 175 args) w:=enters_of func175 oK rfl
theorem Qfu (blk off size:Nat)(w:Ur):CmpLays prog 175 #[] kCells 2 Qbg blk off size w:=fun m os dk _ x y=>
 (Qcc x y _).mono fun e w' ⟨he,hb⟩=>⟨he,hb.grown⟩
theorem QeB (B blk cap:Nat)(ss:List Dt)(w:Ur)(ho:w.ownsRow B 115 2 (Uf (Uc blk) ss.length cap) ss.length (kRow ss))(hsz:ss.length<=1048576):
  Cl 200 #[Uf (Uc blk) ss.length cap,.func (.func 175) #[] #[]] w fun e w'=>e=Ui (Ul #[])/\∃ts:List Dt,ts.Perm ss/\ SortedIn (ltOf Qbg) 0 ts.length ts.toArray/\ w'.ownsRow B 115 2 (Uf (Uc blk) ss.length cap) ss.length (kRow ts)/\ w.grownBy w' (Uq blk):=by
 rcases ho.2 with ⟨o,_⟩|⟨Y,V,z,q,E,m,i,b,p,s⟩
 ·cases o
 cases q;have M:blk<w.heap.size:=(Array.getElem?_eq_some_iff.1 m).1;have A:HoldsK kCells 2 w blk 0 ss.toArray:=by
  intro t U;have y:t<ss.length*2:=oW U;refine⟨?_,by simp [Yq,m]⟩;have k:(z.toList.take (ss.length*2))[t]? =(kRow ss)[t]? :=by rw [s]
  rw [Vf y,kRow_get ss t y] at k;have r:=get_flatK kCells 2 ss.toArray t (oW y);rw [r];simp only [UE,m,Nat.zero_add,Option.isSome_none,Bool.false_eq_true,if_false];rw [<- Yi,k];rfl
 have u:=AnyQ.slices_SortFunc Tryz.sortD 2 Tryz.isAgg115 Tryz.sizeOf115 kCells QbE (fun x v q=>by simp [kCells] at q;rcases q with rfl|rfl<;>rfl) Qbg QaH.dot.swo 175 #[] blk 0 cap ss.toArray w QgU (Qfu blk 0 _ w) A M oS;change Cl 200 _ _ _ at u;simp only [VE] at u;refine u.mono ?_;rintro e w' ⟨rfl,d',n,Z,h,Q,rfl⟩;have j:d'.size=ss.length:=oW h.1;have O:d'.toList.Perm ss:=by
  have:=h.2.2;have k:d'.extract 0 ss.length=d':=j▸oP;have r:ss.toArray.extract 0 ss.length=ss.toArray:=oP;rw [k,r] at this;simpa using this
 refine⟨rfl,d'.toList,O,by simpa [j] using Q,⟨by rw [Qbj];simp [j],.inr ⟨blk,cap,_,rfl,E,Qce _ m,i,b,by simp [putCells,p],?_⟩⟩,Qbs _⟩;have g:flatK kCells 2 d'=(kRow d'.toList).toArray:=by
  have:=Qec d'.toList;simp only [Yl] at this;rw [<- this]
 rw [g];have:=QeG z (kRow d'.toList) (by rw [Qbj];simp [j];omega);rw [Qbj] at this;simpa [j] using this
theorem Qdy {ts:List Dt}(h:ts.Nodup)(hs:SortedIn (ltOf Qbg) 0 ts.length ts.toArray):ts.Pairwise (fun x y=>Qbg x y<0):=by
 have:=QaH.dot.rises (d:=ts.toArray) (by simpa using hs) (by simpa using h);simpa using this
theorem QcG (g:Nat)(lb:Array Value)(eg:∀args w,(callFunc g args).run prog w=.ok (.enter g args) w)(N:Nat)(f:Dt ->Option ByteArray)(w:Ur)(hN:N<=1048576)(hseq:SeqGives Fence.wide 4 prog g lb dtV (Qc6 f) N w):
  Cl 173 #[.func (.func g) #[] lb,.func (.func 175) #[] #[]] w fun e w'=>∃(v:Value) (j:List Dt),e=Ui v/\ j.Pairwise (fun x y=>Qbg x y<0)/\ (∀x,x∈j↔f x≠Up)/\ j.length<=1048576/\ w'.ownsRow w.heap.size 115 2 v j.length (kRow j)/\ Bl w w':=by
 have o:=hid (Qfw g lb eg _ N oL oM w (SeqGives.bounded hseq));go_enter func173,ntmps173;go_wp2_with fail;refine o.mono ?_;rintro e w1 ⟨v,b,rfl,⟨h,X⟩,q,H,t⟩;rcases q.2 with ⟨rfl,J⟩|⟨Z,cap,K,rfl,G,L,B,C,D,F⟩
 ·have I:b=[]:=VL J;subst I;have r:=hid t;have u:=hid h;have U:=hid q;have i:=AnyF.slices_SortFunc_none Tryz.sortD Up 0 (.func (.func 175) #[] #[]) w1;change Cl 200 _ _ _ at i;have m:=hid i;clear t h q o i;go_wp2_with fail;refine m.mono ?_;rintro e w2 ⟨rfl,rfl⟩;clear m;go_wp2_with fail;go_ret;exact⟨_,[],rfl,List.Pairwise.nil,fun x=>u.2 x,oP,U,r⟩
 ·have m:=hid (QeB w.heap.size Z cap b w1 q oM);have r:=hid t;have u:=hid h;have O:Hid (b.length<=1048576):=hid oM;have Y:=hid G;clear t h q o H;go_wp2_with fail;refine m.mono ?_;rintro e w2 ⟨rfl,j,A,E,s,p⟩;have Q:=hid s;have M:=hid (r.grown p r.size (fun k e=>by injection e with e;have:=Y.out;omega));have z:=hid A;have V:=hid E;clear s p A E m;go_wp2_with fail;go_ret;refine⟨_,j,rfl,Qdy (z.nodup_iff.2 u.1) V,fun x=>by rw [z.mem_iff];exact u.2 x,by rw [z.length_eq];exact O,?_,M⟩;rw [z.length_eq];exact Q
theorem Qf9 (n l Bm:Nat)(J:List Dt ->Ur ->Prop)(W:Ur)(hJ:AbidesFrom W.heap.size J)(hm:W.cell? (Ub Bm)=Uq (.map Up))(h0:J [] W):
  CallsIn Fence.wide n prog 201 #[.func (.yield l) #[] #[],Uk (Uc Bm)] W fun e W'=>(∃v,e=Ui v)/\∃ss:List Dt,Qc6 (fun _=>(Up:Option ByteArray)) ss/\ J ss W':=by
 have k:=run_range_nilMap (P:=prog) W 170 115 225 underlying170;have j:∀ty,(Instr.next (Uk (Uc W.heap.size)) false ty).run prog (W.alloc (.mapIter Up 0 #[] 0))=_:=fun ty=>run_next_nilMap _ ty 0 0 #[];refine callsIn_of_wp func201 rfl trivial ?_ rfl;simp only [ntmps201,VE,Vh,VF,VY,VZ,Yg,Yh,VG,VH,VI,VJ];gi_wp2
 refine wpIn_loop_rounds 1 ?_;rw [roundsIn_succ];gi_wp2
 go_end0;exact⟨⟨_,rfl⟩,[],⟨VM,fun x=>oP⟩,hJ [] W _ Up h0 (Ym W _ Up) (fun r e=>by cases e)⟩
theorem Qhj (mb:Option Nat)(w:Ur):Cl 174 #[.map mb] w fun e w'=>e=Ui (.func (.func 201) #[] #[Uk (Uc w.heap.size)])/\ w'=w.alloc (Uj #[.map mb] 170):=by
 go_enter func174,ntmps174;go_wp2_with fail;go_ret;exact⟨rfl,rfl⟩
theorem sortedDotsC (B c:Nat)(N:List Ky ->Option (Nat×Nat))(M:List Ky ->Dt ->Option ByteArray)(p:List Ky)(w:Ur)(hT:Tre w B N M c)(hc:c<=1048576):
  Cl 155 #[Uo #[.map (mF (N p)),.map (mS (N p))]] w fun e w'=>∃(v:Value) (j:List Dt),e=Ui v/\ j.Pairwise (fun x y=>Qbg x y<0)/\ (∀x,x∈j↔M p x≠Up)/\ j.length<=1048576/\ w'.ownsRow w.heap.size 115 2 v j.length (kRow j)/\ Bl w w':=by
 obtain⟨K,I⟩:=zE (mF (N p));obtain⟨m,h⟩:=zE (mS (N p));rw [I,h];have A:Hid (∀w1,Bl w w1 ->∀Bm,Bm<w1.heap.size ->w1.cell? (Ub Bm)=Uq (.map m) ->∃n,n<=1048576/\ SeqGives Fence.wide 4 prog 201 #[Uk (Uc Bm)] dtV (Qc6 (M p)) n w1):=hid (fun w1 z Bm hBm k=>by
  cases e:N p with
  | some x=>
   obtain⟨D,U⟩:=(hT.bw z).marks p x e;have:m=Uq x.2:=(by rw [<- h,e];rfl);rw [this] at k;exact⟨Maps.size D,Ux U.own.size_le hc,Qdu Bm x.2 c _ D w1 hBm k U⟩
  | none=>
   have:m=Up:=(by rw [<- h,e];rfl);rw [this] at k;refine⟨0,oM,fun l J W q hJ hY h0=> ?_⟩;have P:M p=fun _=>Up:=funext fun y=>by rw [hT.none' _ e]
   rw [P];exact Qf9 4 l Bm J W hJ ((q.cell (p:=(Ub Bm)) hBm).trans k) h0)
 obtain⟨W,q⟩:=zE (w.alloc (Uj #[.map K,.map m] 172));have Q:Bl w W:=q▸zO _ _;have O:Bx2 W w.heap.size (.map K) (.map m):=q▸Bx2.made _ _ _ _;have k0:=O.c1;have s:=hid Q;clear hT Q O I h;go_enter func155,ntmps155;go_wp2_with fail;try rw [q]
 clear q;refine(Qhj m W).mono ?_;rintro e w1 ⟨rfl,t⟩;have z:Bl W w1:=by rw [t];exact zO _ _
 have i:w1.cell? (Ub W.heap.size)=Uq (.map m):=by rw [t];simp
 have L:W.heap.size<w1.heap.size:=by rw [t];simp
 have u:=hid (s.trans (z.mono s.size));obtain⟨n,S,H⟩:=A w1 u W.heap.size L i;have E:=hid (QcG _ _ (enters_of func201 oK rfl) n (M p) w1 S H);clear H t z i L k0 A;go_wp2_with fail;refine E.mono ?_;rintro e w2 ⟨v,j,rfl,G,k,Y,Z,V⟩;have o:=hid (And.intro G (And.intro k Y));have X:=hid (u.trans (V.mono u.size));have C:Hid (w2.ownsRow w.heap.size 115 2 v j.length (kRow j)):=hid (by
  obtain⟨T,b⟩:=Z;refine⟨T,?_⟩;rcases b with b|⟨g,cap,F,e,R,r⟩
  ·exact .inl b
  ·exact .inr ⟨g,cap,F,e,Ux u.size R,r⟩)
 clear G k Y Z V E;go_wp2_with fail;go_ret;exact⟨v,j,rfl,o.1,o.2.1,o.2.2,C,X⟩
end Go.Proofs.YtedpomikcaemgaaGreatDoor.Ds
namespace Go.Proofs.YtedpomikcaemgaaGreatDoor
open Go.ChangeShapes Go.WideShapes Go.ChangeAt Go.RowKit Go.Proofs.Tryz
open Go.Value renaming int → Ug, pointer → Uk, string → Um, bool → Un, agg → Uo, slice → Uf, tuple → Ul
open Go.IntKind renaming i64 → Uh
open Go.Ending renaming returned → Ui
open Go.Obj renaming cells → Uj
open Option renaming none → Up, some → Uq
open Go renaming World → Ur, Addr → Us
open List renaming size_toArray → VE, length_cons → Vh, length_nil → VF, push_toArray → VG, append_toArray → VH, nil_append → VI, cons_append → VJ, flatMap_cons → Vz, length_append → Vg, ext_getElem? → Ve, getElem?_eq_none → US, getElem?_take_of_lt → Vf, getElem?_take_eq_none → VK, eq_nil_of_length_eq_zero → VL, nodup_nil → VM, append_assoc → Vu, getElem?_map → VN, mem_of_getElem? → VO, take_add_one → VP, map_cons → Vm, take_length → VQ, flatMap_append → Vw, getD → UR, getElem_mem → UW, mem_singleton → UV, range → UT, map_map → VR, map_congr_left → Vr, getElem?_append_right → VS, mem_cons_self → Vt, mem_cons_of_mem → VT, flatMap_nil → VA, append_nil → VC, eq_nil_or_concat → VU, concat_eq_append → VV, pairwise_singleton → VW, ne_nil_of_mem → VX
open Nat renaming reduceAdd → VY, reduceSub → VZ, le_refl → Uu, le_trans → Ux, lt_or_ge → Ya, zero_le → Uv, lt_of_lt_of_le → Ut, le_of_not_lt → Yb, pow_succ → Va, mul_le_mul_right → Yc, pow_le_pow_right → Yd, eq_zero_or_pos → Vb, mul_comm → Ye, mul_assoc → Yf, add_sub_cancel → Uz, add_assoc → Uy
open _root_.Array renaming replicate_succ → Yg, replicate_zero → Yh, getElem?_toList → Yi, getElem?_eq_getElem → Yj, getElem?_modify → Yk, toArray_toList → Yl
open Go.World renaming grownBy_alloc → Ym, putObj_heap_other → Yn, putObj_heap_same → Yo, cell?_of_block → UB, alloc_heap_new → Yp, size_alloc → UD, frozen? → Yq, cell? → UE, ownsRow_nil → Yr, cell?_setCell_other → UI, cell?_setCell_same → UH, frozen?_setCell → UG, frozen?_of_block → Ys, setCell → UC, cell?_setCell_far → UF
open Go.IntKind renaming wrap_u64 → Yt, u8 → Yu
open Int renaming tmod_eq_emod_of_nonneg → Yv, natCast_nonneg → UZ, toNat_natCast → Yw, le_refl → Yx, lt_or_le → Yy, le_trans → Yz
open Option renaming bind_eq_bind → YA, bind_some → YB
variable {B V bm c cap cb g hi hi' i j k lo lo' m n p x':Nat}{F R T f:Nat ->Int}{L:Int ->List (Int×Int)}{U W zs:List Int}{a:Option Us}{aE aL aS aT:Us}{cur:Array Value}{e:TypeId}{fr:Nat×Nat}{l la lb:List (Int×Int)}{most r x y z:Int}{q:Int×Int}{s:ByteArray}{ts:List Ky}{v:Value}{w w' w1 w2:Ur}{xs:List Value}
theorem QdV (B:Nat)(bv:Value)(zs0:List Int)(s:ByteArray)(w:Ur)(hs:s.size<=1048576)(hB:B<=w.heap.size)(hl:zs0.length<=1000000000)(ho:Own w B bv zs0):
  Cl 143 #[bv,Um s] w fun e w'=>∃v,e=Ui v/\ Own w' B v (zs0++Qae s)/\ Gr w w' bv v/\ w.heap.size<w'.heap.size:=by
 have o:=Qah 9 s.size;go_enter func143,ntmps143;go_wp2_with fail;refine(QaU B s.size bv zs0 w oM hB oM ho).mono ?_;rintro e w1 ⟨v1,rfl,q,k,h⟩;obtain⟨v2,w2,m,r,j⟩:=QpS B v1 _ s w1 q oM (by rw [Vg];omega) hs;have R:Own w2 B v2 (zs0++Qae s):=by unfold Qae;rw [<- Vu];exact r
 have y:=hid R;have u:=hid (k.trans j);have t:=j.g.size;have z:Hid (w.heap.size<w2.heap.size):=hid oM;clear q r k j R h t ho;go_wp2_with (at_builtin;refine Qac rfl _ _ _ _ rfl m (by rfl) (by rfl) rfl ?_;clear m);go_ret;exact⟨v2,rfl,y,u,z⟩
theorem QoC{ts:List Dt}(h:w.ownsRow B 115 2 (Uf (Uc g) m cap) m (Ds.kRow ts))(hl:ts.length=m):∀i,i<m ->∃d,ts[i]? =Uq d/\ w.cell? (Ua g (i*2))=Uq (Ud d.1)/\ w.cell? (Ua g (i*2+1))=Uq (Ud d.2):=by
 rcases h.2 with ⟨v,_⟩|⟨t,z,k,y,s,u,o,b,p,r⟩
 ·cases v
 ·cases y;intro i hi;have hi':i<ts.length:=oM;have q:ts.toArray[i]! =ts[i]:=by rw [getElem!_pos _ _ (oW hi')];simp
  refine⟨ts[i],by simp [hi'],?_,?_⟩
  ·have j:(k.toList.take (m*2))[i*2]? =(Ds.kRow ts)[i*2]? :=(by rw [r]);rw [Vf oM,Ds.kRow_get ts (i*2) oM] at j;rw [show i*2/2=i by omega,show i*2%2=0 by omega,q] at j;simp [UE,u,<- Yi,j,Ds.kCells]
  ·have j:(k.toList.take (m*2))[i*2+1]? =(Ds.kRow ts)[i*2+1]? :=(by rw [r]);rw [Vf oM,Ds.kRow_get ts (i*2+1) oM] at j;rw [show (i*2+1)/2=i by omega,show (i*2+1)%2=1 by omega,q] at j;simp [UE,u,<- Yi,j,Ds.kCells]
theorem Qrd{ts:List Dt}(h:w.ownsRow B 115 2 v ts.length (Ds.kRow ts)):∃a cap,v=Uf a ts.length cap/\ ts.length<=cap/\ cap<=9223372036854775807/\ (0<ts.length ->∃g,a=Uq (Ub g)/\ B<=g/\ g<w.heap.size/\∀i,i<ts.length ->∃d,ts[i]? =Uq d/\ w.cell? (Ua g (i*2))=Uq (Ud d.1)/\ w.cell? (Ua g (i*2+1))=Uq (Ud d.2)):=by
 rcases h.2 with ⟨rfl,j⟩|⟨g,cap,u,rfl,r,q,k,m,y,z⟩
 ·exact⟨Up,0,by rw [j],oM,oM,fun hh=>oM⟩
 ·exact⟨_,cap,rfl,k,by unfold maxLen at m;omega,fun _=>⟨g,rfl,r,(Array.getElem?_eq_some_iff.1 q).1,QoC h rfl⟩⟩
theorem Qgk(l:List Lf)(p:List ByteArray)(y:Ky)(w0:Ur)(Bt c:Nat)(N:List Ky ->Option (Nat×Nat))(hT:Tre w0 Bt N (Mk l l.length) c)(hc:c<=1048576)(hlv:QbU R F T n l l.length)(hbd:LvB l)(hy:y.2=1 \/y.2=2)(bv:Value)(zs0:List Int)(w:Ur)(hb:Bl w0 w)(ho:Own w w0.heap.size bv zs0)(hl:zs0.length<=100000000):
  Cl 144 #[Uo #[.map (mF (N (Qad p 3++[y]))),.map (mS (N (Qad p 3++[y])))],bv,Ud y.2] w fun e w'=>∃v,e=Ui v/\ Own w' w0.heap.size v (zs0++mB (dsK l p y l.length) y.2)/\ Gr w w' bv v:=by
 have Hq:y.2≠3:=oM;obtain⟨ls,O⟩:=zE (dsK l p y l.length);obtain⟨Y,hY⟩:=zE y.2;rw [O,hY];rw [hY] at hy;clear hY;obtain⟨W,A⟩:=zE (w.alloc (Uj #[.map (mF (N (Qad p 3++[y]))),.map (mS (N (Qad p 3++[y])))] 172));have I:Bl w W:=A▸zO _ _;have H:Bx2 W w.heap.size (.map (mF (N (Qad p 3++[y])))) (.map (mS (N (Qad p 3++[y])))):=A▸Bx2.made _ _ _ _;have zW:W.heap.size=w.heap.size+1:=A▸oP;have Hl:Bl w0 W:=hb.trans (I.mono hb.size);have Hg:=hid (Ds.sortedDotsC Bt c N (Mk l l.length) (Qad p 3++[y]) W (hT.bw Hl) hc);obtain⟨m0,Ho⟩:=zE (mF (N (Qad p 3++[y])));obtain⟨m1,X⟩:=zE (mS (N (Qad p 3++[y])));rw [Ho,X] at H Hg A;rw [Ho,X];obtain⟨k0,k1⟩:=H.q2;have HX:=hid H;have Gh:=hid I;have C:=hid Hl;have HO:=hid (Own.kept ho I (fun k M=>(World.ownsRow.lt ho k M).2));have HT:=hid hT;have Go:=hid X;have G:Hid (∀g,bv.ownBlock=Uq g ->w0.heap.size<=g/\ g<w.heap.size):=hid (fun g hg=>World.ownsRow.lt ho g hg);clear H I Hl ho hT Ho X;go_enter func144,ntmps144;go_wp2_with fail;try rw [A]
 clear A;refine Hg.mono ?_;rintro e w1 ⟨vd,ts,rfl,Hd,He,Gu,Gb,o⟩;have L:=Qgq hlv Hq Hd He;have P:Hid (∀x∈ls,(0<=x.r/\ x.r<8)/\ (0<=x.q/\ x.q<=1000000000)/\ x.v.size<=200):=hid (fun x hx=>by
  rw [<- O] at hx;obtain⟨j,hj,_,rfl⟩:=QaZ.1 hx;exact⟨hbd.rep j hj,hbd.seq j hj,hbd.val j hj⟩)
 have Gl:Hid (∀x∈ls,∀w',Bl w0 w' ->(Instr.lookup 170 (.map m1) (Uo #[Ud x.r,Ud x.q]) false).run prog w'=.ok (Uo #[Um x.v]) w'):=hid (fun x hx w' hb'=>by
  have hv:=Qg7 Hq hbd.dis (by rw [O];exact hx);have T':=HT.bw hb';have hl:=P x hx;cases e:N (Qad p 3++[y]) with
  | none=>rw [T'.none' _ e] at hv;cases hv
  | some x1=>
   have hu:m1=Uq x1.2:=(by rw [<- Go.out,e];rfl);obtain⟨kl,Gs⟩:=QdY (r:=x.r) (q:=x.q) (wfI oM oM) (wfI oM oM);have:=(T'.marks _ x1 e).look Qat underlying170 (QfZ w') (x:=(x.r,x.q)) Gs;rw [hv] at this;rw [hu];exact this)
 have Gt:ls.length<=1000:=by rw [<- O];have:=QgS l p y l.length;have:=hbd.len;omega
 rw [O] at L;have Gc:ts.length=ls.length:=by rw [L];simp
 obtain⟨da,dc,rfl,Hm,Gq,H7⟩:=Qrd Gb;have HD:Hid (0<ls.length ->∃g,da=Uq (Ub g)/\ W.heap.size<=g/\ g<w1.heap.size/\∀i,i<ls.length ->∃x∈ls,ls[i]? =Uq x/\ w1.cell? (Ua g (i*2))=Uq (Ud x.r)/\ w1.cell? (Ua g (i*2+1))=Uq (Ud x.q)):=hid (fun h0=>by
  obtain⟨g,e1,e2,e3,e4⟩:=H7 oM;refine⟨g,e1,e2,e3,fun i hi=> ?_⟩;obtain⟨d,f1,f2,f3⟩:=e4 i oM;rw [L] at f1;simp only [VN,Option.map_eq_some_iff] at f1;obtain⟨x,f4,f5⟩:=f1;subst f5;exact⟨x,VO f4,f4,f2,f3⟩)
 rw [Gc] at Hm ⊢;have X1:=HX.bw o HX.lt;have Hz:=hid X1;have Gm:=hid (Own.kept HO o (fun k M=>oH ((G k M).2)));have Hr:=hid (C.trans (o.mono C.size));have Hf:=hid (Qaa Gh o);have x0:IntKind.u64.wrap ((ls.length:Nat):Int)=(ls.length:Int):=QeO _ oM oM;have Gx:=o.size;have Q:Hid (w0.heap.size<=w1.heap.size/\ w.heap.size<w1.heap.size/\ w0.heap.size<=w.heap.size):=hid ⟨Hr.size,oM,hb.size⟩;clear k0 k1 Gb Hd He Gu H7 L Gc o Hg X1 HX HO C Gx O Hq;go_wp2_with fail;refine(QaU w0.heap.size ls.length bv zs0 w1 oM Q.1 oM Gm).mono ?_;rintro e w2 ⟨v2,rfl,o2,g2,z2⟩;have Hv:=hid o2;have Hs:=hid g2;have H0:=hid z2;clear o2 g2 z2 x0;go_wp2_with fail;go_loopw [1,19] (fun b' i wr=>∃(k:Nat),k<=ls.length/\ i=Ud k/\ Hid (Own wr w0.heap.size b' (zs0++(uvF 9 ls.length++(ls.take k).flatMap (lfB Y))))/\ Hid (Gr w1 wr bv b')/\ Hid (w1.heap.size<=wr.heap.size)) (fun _ i _=>ls.length - (intOf i).toNat);case atStart=>exact⟨0,Uv _,rfl,hid (oW Hv),Hs,hid (Nat.le_of_lt H0)⟩
 case round=>
  clear Hv Hs H0;obtain⟨k,M,rfl,Z,u,H2⟩:=hrel;by_cases Hn:k<ls.length
  ·obtain⟨g,rfl,Gy,Gz,H9⟩:=HD oM;obtain⟨x,Hp,Gd,H5,H6⟩:=H9 k Hn;have Hc:Uq g≠bv.ownBlock:=fun e=>oH ((G g e.symm).2);have Ha:Uq w.heap.size≠bv.ownBlock:=fun e=>by have:=(G _ e.symm).2;omega
   have s:=u.g.cell H5 Hc;have c2:=u.g.cell H6 Hc;have n1:=u.g.cell Hz.c1 Ha;have Gv:=P x Hp;have Hh:Hid ((ls.take (k+1)).flatMap (lfB Y)=(ls.take k).flatMap (lfB Y)++lfB Y x):=hid (by rw [VP,Gd];simp);have Hj:Hid ((zs0++(uvF 9 ls.length++(ls.take k).flatMap (lfB Y))).length<=100000000+10+230000):=hid (by
    have h1:=(Qah 9 ls.length).1;have h2:=Qcu (lfB Y) (fun _=>1) 230 (ls.take k) (fun z hz=>by
     have a1:=(Qah 9 z.r.toNat).1;have a2:=(Qah 9 z.q.toNat).1;have a3:=QaL z.v;have a4:=(P z (List.mem_of_mem_take hz)).2.2;unfold lfB;simp only [Vg];split
     ·omega
     ·simp;omega)
    have h3:∀ls:List Lf,(ls.map fun _=>1).sum=ls.length:=fun ls=>by
     induction ls with
     | nil=>rfl
     | cons a r ih=>simp only [Vm,List.sum_cons,ih,Vh];omega
    rw [h3,List.length_take] at h2;simp only [Vg];omega)
   have D:Hid (∀w',Bl w0 w' ->(Instr.lookup 170 (.map m1) (Uo #[Ud x.r,Ud x.q]) false).run prog w'=.ok (Uo #[Um x.v]) w'):=hid (fun w' h=>Gl.out x Hp w' h);obtain⟨xp,xf,xr,xq,U⟩:=x;dsimp only at s c2 Gv D Hh;obtain⟨r,rfl⟩:∃r:Nat,xr=(r:Int):=⟨xr.toNat,oM⟩;obtain⟨q,rfl⟩:∃q:Nat,xq=(q:Int):=⟨xq.toNat,oM⟩;have Hy:Hid (lfB Y ⟨xp,xf,(r:Int),(q:Int),U⟩=uvF 9 r++(uvF 9 q++if Y=1 then Qae U else [])):=hid (by simp [lfB]);have x3:IntKind.u64.wrap (r:Int)=(r:Int):=QeO _ oM oM;have x4:IntKind.u64.wrap (q:Int)=(q:Int):=QeO _ oM oM;obtain⟨t,E⟩:=zE (wr.alloc (Uj #[Ud (r:Int),Ud (q:Int)] 115));have B:Bx2 t wr.heap.size (Ud (r:Int)) (Ud (q:Int)):=E▸Bx2.made _ _ _ _;have H3:Bl wr t:=E▸zO _ _;have Gk:Hid (Gr w1 t bv u1):=E▸hid (u.alloc _);have Gn:Hid (Own t w0.heap.size u1 (zs0++(uvF 9 ls.length++(ls.take k).flatMap (lfB Y)))):=E▸hid (World.ownsRow.alloc Z _);have Hb:Hid (Uq wr.heap.size≠u1.ownBlock):=hid (fun e=>by have:=(World.ownsRow.lt Z _ e.symm).2;omega);obtain⟨q0,q1⟩:=B.q2;have V:=hid B;have Gi:=hid Ha;have Hk:Hid (w1.heap.size<=t.heap.size):=hid (oJ H3.size H2);clear B H3 H5 H6 H9 Hp Gd Ha Hc Z u H2;go_wp2_with fail;try rw [E]
   clear E;refine(QaU w0.heap.size r u1 _ t oM (oJ Q.1 Hk) (oH Hj) Gn).mono ?_;rintro e w3 ⟨v3,rfl,o3,g3,z3⟩;have Gw:=g3.g.cell V.c1 Hb;have Hw:=hid o3;have Ht:=hid g3;have H1:=hid z3;have l3:=(Qah 9 r).1;clear o3 g3 z3 q0 q1 s c2 n1 x3;go_wp2_with fail;refine(QaU w0.heap.size q v3 _ w3 oM (by have:=Q.1;have:=Hk.out;have:=H1.out;omega) (by have:=Hj.out;rw [Vg];omega) Hw).mono ?_;rintro e m ⟨v5,rfl,o5,g5,z5⟩;have K:=Ht.trans g5;have Gf:=K.g.cell V.c0 Hb;have Gg:=K.g.cell V.c1 Hb;have J:=Gk.trans K;have Ge:=J.g.cell Hz.c1 Gi;have H4:Bl w0 m:=Hr.trans (J.bw Q.1 (fun k M=>(G k M).1));have Ga:=D m H4;have H8:(Instr.field 225 (Uo #[Um U]) 0).run prog m=.ok (Um U) m:=oK;have Hx:=hid o5;have Hu:=hid J;have Hi:Hid (w1.heap.size<=m.heap.size):=hid (oJ Hk H1);have l5:=(Qah 9 q).1;clear o5 g5 z5 Gw K J x4 H4 D Ht Hw V;rcases hy with rfl|rfl
   ·go_wp2_with fail;refine(QdV w0.heap.size v5 _ U m oM (oJ Q.1 Hi) (by have:=Hj.out;simp only [Vg] at*;omega) Hx).mono ?_;rintro e w6 ⟨v6,rfl,o6,g6,z6⟩;have S:Hid (Own w6 w0.heap.size v6 (zs0++(uvF 9 ls.length++(ls.take (k+1)).flatMap (lfB 1)))):=hid (by rw [Hh.out,Hy.out];simpa using o6);have Gj:=hid (Hu.trans g6);have Gp:Hid (w1.heap.size<=w6.heap.size):=hid (oH Hi);clear o6 g6 z6 Ga H8 Gf Gg Ge;go_wp2_with fail;go_roundw;case rel=>exact⟨k+1,Hn,oN,S,Gj,Gp⟩
    case measure=>exact oE
   ·have S:Hid (Own m w0.heap.size v5 (zs0++(uvF 9 ls.length++(ls.take (k+1)).flatMap (lfB 2)))):=hid (by rw [Hh.out,Hy.out];simpa using Hx.out);clear Ga H8 Gf Gg Ge;go_wp2_with fail;go_roundw;case rel=>exact⟨k+1,Hn,oN,S,Hu,Hi⟩
    case measure=>exact oE
  ·obtain rfl:k=ls.length:=oM;have HF:Hid (zs0++(uvF 9 ls.length++(ls.take ls.length).flatMap (lfB Y))=zs0++mB ls Y):=hid (by rw [VQ];rfl);go_wp2_with fail;go_ret;refine⟨_,rfl,by rw [<- HF.out];exact Z,?_⟩;exact(Gr.of_below (b:=bv) Hf).trans u
theorem Qpy(h:w.ownsRow B 230 2 (Uf (Uc g) m cap) m (kRow ts))(hl:ts.length=m):∀i,i<m ->∃d,ts[i]? =Uq d/\ w.cell? (Ua g (i*2))=Uq (Um d.1)/\ w.cell? (Ua g (i*2+1))=Uq (Ud d.2):=by
 rcases h.2 with ⟨v,_⟩|⟨t,z,k,y,s,u,o,b,p,r⟩
 ·cases v
 ·cases y;intro i hi;have hi':i<ts.length:=oM;have q:ts.toArray[i]! =ts[i]:=by rw [getElem!_pos _ _ (oW hi')];simp
  refine⟨ts[i],by simp [hi'],?_,?_⟩
  ·have j:(k.toList.take (m*2))[i*2]? =(kRow ts)[i*2]? :=(by rw [r]);rw [Vf oM,kRow_get ts (i*2) oM] at j;rw [show i*2/2=i by omega,show i*2%2=0 by omega,q] at j;simp [UE,u,<- Yi,j,kCells]
  ·have j:(k.toList.take (m*2))[i*2+1]? =(kRow ts)[i*2+1]? :=(by rw [r]);rw [Vf oM,kRow_get ts (i*2+1) oM] at j;rw [show (i*2+1)/2=i by omega,show (i*2+1)%2=1 by omega,q] at j;simp [UE,u,<- Yi,j,kCells]
theorem Qri(h:w.ownsRow B 230 2 v ts.length (kRow ts)):∃a cap,v=Uf a ts.length cap/\ ts.length<=cap/\ cap<=9223372036854775807/\ (0<ts.length ->∃g,a=Uq (Ub g)/\ B<=g/\ g<w.heap.size/\∀i,i<ts.length ->∃d,ts[i]? =Uq d/\ w.cell? (Ua g (i*2))=Uq (Um d.1)/\ w.cell? (Ua g (i*2+1))=Uq (Ud d.2)):=by
 rcases h.2 with ⟨rfl,j⟩|⟨g,cap,u,rfl,r,q,k,m,y,z⟩
 ·exact⟨Up,0,by rw [j],oM,oM,fun hh=>oM⟩
 ·exact⟨_,cap,rfl,k,by unfold maxLen at m;omega,fun _=>⟨g,rfl,r,(Array.getElem?_eq_some_iff.1 q).1,Qpy h rfl⟩⟩
theorem QnV {p:List ByteArray}{x:Lf}{y:Ky}(hx:Qc0 x)(h:nx p x=Uq y):(y.2=1 \/y.2=2) \/(y.2=3/\ p.length+2<=8):=by
 rw [Qbh] at h;obtain⟨⟨_,q⟩,e⟩:=h;have j:=congrArg Prod.snd e;unfold Qas at j;dsimp only at j;by_cases m:p.length+1<x.p.length
 ·rw [if_pos m] at j;have:=hx.1.2.1;exact .inr ⟨j.symm,oM⟩
 ·rw [if_neg m] at j;rcases Qhi x.fl with k|k<;>rw [k] at j
  ·exact .inl (.inl j.symm)
  ·exact .inl (.inr j.symm)
theorem Qf1 {α:Type}(f:α ->List Int)(ts:List α)(k:Nat):((ts.take k).flatMap f).length<=(ts.flatMap f).length:=by
 conv=>rhs;rw [<- List.take_append_drop k ts,Vw,Vg]
 omega
theorem Qgl {R F T:Nat ->Int}{n:Nat}(l:List Lf)(w0:Ur)(Bt c:Nat)(N:List Ky ->Option (Nat×Nat))(hT:Tre w0 Bt N (Mk l l.length) c)(hN:NkI l l.length N)(hc:c<=1048576)(hlv:QbU R F T n l l.length)(hbd:LvB l):∀(f:Nat) (p:List ByteArray),p.length+f=8 ->1<=f ->∀(bv:Value) (zs0:List Int) (w:Ur),Bl w0 w ->Own w w0.heap.size bv zs0 ->zs0.length+(tB l f p).length<=90000000 ->
  Cl 129 #[Uo #[.map (mF (N (Qad p 3))),.map (mS (N (Qad p 3)))],bv] w fun e w'=>∃v,e=Ui v/\ Own w' w0.heap.size v (zs0++tB l f p)/\ Gr w w' bv v
 | 0,_,_,q,_,_,_,_,_,_=>oM
 | f+1,p,hpf,_,bv,zs0,w,hb,ho,hl=>by
  obtain⟨k1,k2⟩:=Qem p hlv l.length zL;obtain⟨TB,Gf⟩:=zE (tB l (f+1) p);rw [Gf] at hl ⊢;have G7:Hid (∀s,p.length+2<=8 ->∀(bv:Value) (zs0:List Int) (w:Ur),Bl w0 w ->Own w w0.heap.size bv zs0 ->zs0.length+(tB l f (p++[s])).length<=90000000 ->Cl 129 #[Uo #[.map (mF (N (Qad p 3++[(s,3)]))),.map (mS (N (Qad p 3++[(s,3)])))],bv] w fun e w'=>∃v,e=Ui v/\ Own w' w0.heap.size v (zs0++tB l f (p++[s]))/\ Gr w w' bv v):=hid (fun s G3 bv zs0 w q A h3=>by
   rw [<- QfW];exact Qgl l w0 Bt c N hT hN hc hlv hbd f (p++[s]) oS oM bv zs0 w q A h3)
  obtain⟨W,hW⟩:=zE (w.alloc (Uj #[.map (mF (N (Qad p 3))),.map (mS (N (Qad p 3)))] 172));have b0:Bl w W:=hW▸zO _ _;have X0:Bx2 W w.heap.size (.map (mF (N (Qad p 3)))) (.map (mS (N (Qad p 3)))):=hW▸Bx2.made _ _ _ _;have zW:W.heap.size=w.heap.size+1:=hW▸oP;have Gg:Bl w0 W:=hb.trans (b0.mono hb.size);have Ge:=hid (QcH Bt c N (Mk l l.length) (Qad p 3) W (hT.bw Gg) hc);obtain⟨m0,H9⟩:=zE (mF (N (Qad p 3)));obtain⟨m1,Gh⟩:=zE (mS (N (Qad p 3)));rw [H9,Gh] at X0 Ge hW;rw [H9,Gh];obtain⟨q0,q1⟩:=X0.q2;have HX:=hid X0;have G6:=hid b0;have Gb:=hid Gg;have HO:=hid (Own.kept ho b0 (fun k E=>(World.ownsRow.lt ho k E).2));have HT:=hid hT;have G9:=hid H9;have Hb:Hid (∀g,bv.ownBlock=Uq g ->w0.heap.size<=g/\ g<w.heap.size):=hid (fun g hg=>World.ownsRow.lt ho g hg);have Gq:=hid Gf;have Gm:=hid k2;clear X0 b0 Gg ho H9 Gh Gf k1 k2;go_enter func129,ntmps129;go_wp2_with fail;try rw [hW]
  clear hW;refine Ge.mono ?_;rintro e w1 ⟨vd,m,rfl,Hz,H0,Kf,G2,b1⟩;have H7:=QjO (p:=p) hlv hN Hz H0;obtain⟨da,dc,rfl,Kb,Kc,Gz⟩:=Qri G2;have Ke:m.length<=1000:=by rw [H7];have:=Qff l p l.length;have:=hbd.len;omega
  have HD:Hid (0<m.length ->∃g,da=Uq (Ub g)/\ W.heap.size<=g/\ g<w1.heap.size/\∀i,i<m.length ->∃y∈m,m[i]? =Uq y/\ w1.cell? (Ua g (i*2))=Uq (Um y.1)/\ w1.cell? (Ua g (i*2+1))=Uq (Ud y.2)):=hid (fun h0=>by
   obtain⟨g,e1,M,e3,e4⟩:=Gz h0;refine⟨g,e1,M,e3,fun i hi=> ?_⟩;obtain⟨d,f1,f2,f3⟩:=e4 i hi;exact⟨d,VO f1,f1,f2,f3⟩)
  have Gs:Hid (TB=uvF 9 m.length++m.flatMap (kB l f p)):=hid (by rw [<- Gq.out,QfV,<- H7]);have Gn:Hid (∀y∈m,y.1.size<=40/\ ((y.2=1 \/y.2=2) \/(y.2=3/\ p.length+2<=8))):=hid (fun y hy=>by
   rw [H7] at hy;obtain⟨j,hj,e⟩:=(Gm y).1 hy;exact⟨Qeu (hlv j hj).1 e,QnV (hlv j hj).1 e⟩)
  have G8:Hid (∀y∈m,∀w',Bl w0 w' ->(Instr.lookup 169 (.map m0) (Uo #[Um y.1,Ud y.2]) false).run prog w'=.ok (Uo #[.map (mF (N (Qad p 3++[y]))),.map (mS (N (Qad p 3++[y])))]) w'):=hid (fun y hy w' hb'=>by
   have hl:=Gn y hy;obtain⟨kl,Kd⟩:=QhT (s:=y.1) (k:=y.2) oL (wfI oM oM);have:=(HT.bw hb').look (Qad p 3) y Kd;rw [G9.out] at this;exact this)
  have X1:=HX.bw b1 HX.lt;have H6:=hid X1;have Ka:=hid (Own.kept HO b1 (fun k E=>oH ((Hb k E).2)));have H2:=hid (Gb.trans (b1.mono Gb.size));have Ga:=hid (Qaa G6 b1);have x0:IntKind.u64.wrap ((m.length:Nat):Int)=(m.length:Int):=QeO _ oM oM;have Kg:=b1.size;have H:Hid (w0.heap.size<=w1.heap.size/\ w.heap.size<w1.heap.size/\ w0.heap.size<=w.heap.size):=hid ⟨H2.size,oM,hb.size⟩;clear q0 q1 G2 Hz H0 Kf Gz H7 b1 Ge X1 HX HO Gb Kg Gm Gq;go_wp2_with fail;refine(QaU w0.heap.size m.length bv zs0 w1 oM H.1 oM Ka).mono ?_;rintro e w2 ⟨v2,rfl,o2,g2,z2⟩;have Go:=hid o2;have Gl:=hid g2;have Gt:=hid z2;clear o2 g2 z2 x0;go_wp2_with fail;go_loopw [1,17] (fun b' i wr=>∃(k:Nat),k<=m.length/\ i=Ud k/\ Hid (Own wr w0.heap.size b' (zs0++(uvF 9 m.length++(m.take k).flatMap (kB l f p))))/\ Hid (Gr w1 wr bv b')/\ Hid (w1.heap.size<=wr.heap.size)) (fun _ i _=>m.length - (intOf i).toNat);case atStart=>exact⟨0,Uv _,rfl,hid (oW Go),Gl,hid (Nat.le_of_lt Gt)⟩
  case round=>
   clear Go Gl Gt;obtain⟨k,E,rfl,H4,Hl,Gu⟩:=hrel;by_cases H8:k<m.length
   ·obtain⟨g,rfl,Kh,Ki,G0⟩:=HD oM;obtain⟨y,Gi,G5,Gx,Gy⟩:=G0 k H8;have Hi:Uq g≠bv.ownBlock:=fun e=>oH ((Hb g e.symm).2);have Hh:Uq w.heap.size≠bv.ownBlock:=fun e=>by have:=(Hb _ e.symm).2;omega
    have c1:=Hl.g.cell Gx Hi;have c2:=Hl.g.cell Gy Hi;have n0:=Hl.g.cell H6.c0 Hh;have G4:=Gn y Gi;have H5:Hid ((m.take (k+1)).flatMap (kB l f p)=(m.take k).flatMap (kB l f p)++kB l f p y):=hid (by rw [VP,G5];simp);have Q:Hid ((zs0++(uvF 9 m.length++(m.take k).flatMap (kB l f p))).length+(kB l f p y).length<=90000000):=hid (by
     have q:=Qf1 (kB l f p) m (k+1);rw [H5.out,Vg] at q;have A:=hl;rw [Gs.out] at A;simp only [Vg] at A ⊢;omega)
    have X:Hid (∀w',Bl w0 w' ->(Instr.lookup 169 (.map m0) (Uo #[Um y.1,Ud y.2]) false).run prog w'=.ok (Uo #[.map (mF (N (Qad p 3++[y]))),.map (mS (N (Qad p 3++[y])))]) w'):=hid (fun w' h=>G8.out y Gi w' h);have Hm:Hid ((y.2=1 \/y.2=2) ->∀(bv:Value) (zs0:List Int) (w:Ur),Bl w0 w ->Own w w0.heap.size bv zs0 ->zs0.length<=100000000 ->Cl 144 #[Uo #[.map (mF (N (Qad p 3++[y]))),.map (mS (N (Qad p 3++[y])))],bv,Ud y.2] w fun e w'=>∃v,e=Ui v/\ Own w' w0.heap.size v (zs0++mB (dsK l p y l.length) y.2)/\ Gr w w' bv v):=hid (fun hy bv zs0 w q A h3=>Qgk l p y w0 Bt c N HT hc hlv hbd hy bv zs0 w q A h3);obtain⟨s,Y⟩:=y;dsimp only at c1 c2 G4 X H5 Hm Q;obtain⟨B,Hq⟩:=zE (wr.alloc (Uj #[Um s,Ud Y] 230));have D1:Bx2 B wr.heap.size (Um s) (Ud Y):=Hq▸Bx2.made _ _ _ _;have Gw:Bl wr B:=Hq▸zO _ _;have Gd:Hid (Gr w1 B bv u1):=Hq▸hid (Hl.alloc _);have Gp:Hid (Own B w0.heap.size u1 (zs0++(uvF 9 m.length++(m.take k).flatMap (kB l f p)))):=Hq▸hid (World.ownsRow.alloc H4 _);have C:Hid (Uq wr.heap.size≠u1.ownBlock):=hid (fun e=>by have:=(World.ownsRow.lt H4 _ e.symm).2;omega);obtain⟨q0,q1⟩:=D1.q2;have L:=hid D1;have Hr:=hid Hh;have Gv:Hid (w1.heap.size<=B.heap.size):=hid (oJ Gw.size Gu);obtain⟨zs,Gj⟩:=zE (zs0++(uvF 9 m.length++(m.take k).flatMap (kB l f p)));have Hf:Hid (zs0++(uvF 9 m.length++(m.take (k+1)).flatMap (kB l f p))=zs++kB l f p (s,Y)):=hid (by rw [H5.out,<- Gj];simp);rw [Gj] at Gp Q;clear D1 Gw Gx Gy G0 Gi G5 Hh Hi H4 Hl Gu Gj H5;go_wp2_with fail;try rw [Hq]
    clear Hq;refine(QdV w0.heap.size u1 _ s B oM (oJ H.1 Gv) (oH Q) Gp).mono ?_;rintro e J ⟨v3,rfl,o3,g3,z3⟩;have Hn:=hid o3;have Hk:=hid g3;have Hp:Hid (w1.heap.size<=J.heap.size):=hid (oH Gv);have Gk:=g3.g.cell L.c1 C;clear o3 g3 z3 q0 q1 c1 c2 n0;rcases G4.2 with (rfl|rfl)|⟨rfl,G3⟩
    ·have V:Hid (kB l f p (s,1)=Qae s++([1]++mB (dsK l p (s,1) l.length) 1)):=hid (by unfold kB;rw [if_neg (show¬(1:Int)=3 by decide)]);obtain⟨z,r,Ha,P,Z⟩:=QcQ w0.heap.size v3 _ [1] (Ub J.heap.size) 1 1 (J.alloc (Uj #[Ug .u8 1] 5)) (World.ownsRow.alloc Hn _) rfl (fun i u hu=>cell_one_new _ _ _ i u hu) (by have:=H.1;have:=Hp.out;simp;omega) (by have q:=Q.out;rw [V.out] at q;simp only [Vg] at q ⊢;simp at q ⊢;omega);have o:Gr B r u1 z:=Hk.trans ((Gr.alloc (Gr.refl J v3) _).trans Z);have S:=o.g.cell L.c0 C;have Hc:=o.g.cell L.c1 C;have t:=Gd.trans o;have D:=t.g.cell H6.c0 Hr;have I:Bl w0 r:=H2.trans (t.bw H.1 (fun k E=>(Hb k E).1));have H1:w1.heap.size<=r.heap.size:=(by have q:=Hp.out;have A:=Z.g.size;simp at A;omega);have Ho:=hid P;have Hs:=hid t;have H3:=hid I;have Hu:Hid ((zs++Qae s++[1]).length+(mB (dsK l p (s,1) l.length) 1).length<=90000000):=hid (by have q:=Q.out;rw [V.out] at q;simp only [Vg] at q ⊢;omega);obtain⟨a1,Hd⟩:=zE (mF (N (Qad p 3++[(s,1)])));obtain⟨a2,He⟩:=zE (mS (N (Qad p 3++[(s,1)])));have Hg:=hid (Hm (.inl rfl));rw [Hd,He] at X Hg;have Hj:Hid (Uq w.heap.size≠z.ownBlock/\ Uq wr.heap.size≠z.ownBlock):=hid ⟨by
      rcases t.l with e|⟨j,e,hj⟩
      ·rw [e];exact Hr
      ·rw [e];intro M;injection M with M;have:=H.2.1;omega,by
      rcases o.l with e|⟨j,e,hj⟩
      ·rw [e];exact C
      ·rw [e];intro M;injection M with M;have:=L.lt;omega⟩
     have Hw:Hid (∀w',Bl w0 w' ->w'.cell? (Ub w.heap.size)=Uq (.map m0) ->w'.cell? (Ub wr.heap.size)=Uq (Um s) ->w'.cell? (Ua wr.heap.size 1)=Uq (Ud 1) ->(Bl w0 w'/\ w'.cell? (Ub w.heap.size)=Uq (.map m0)/\ w'.cell? (Ub wr.heap.size)=Uq (Um s)/\ w'.cell? (Ua wr.heap.size 1)=Uq (Ud 1)/\ (Instr.lookup 169 (.map m0) (Uo #[Um s,Ud 1]) false).run prog w'=.ok (Uo #[.map a1,.map a2]) w')):=hid (fun w' q A h3 h4=>⟨q,A,h3,h4,X w' q⟩);clear P Z o t I Hm X Hd He Q Hn Hk;go_wp2_with (at_builtin;refine Qac rfl _ _ _ _ rfl Ha (by rfl) (by rfl) rfl ?_;clear Ha);refine zG Hw H3.drew D S Hc (fun qh=> ?_);refine tZ 0 40 ?_;refine tZ 1 41 ?_;refine tZ 2 42 ?_;refine tZ 3 43 ?_;refine tZ 4 44 ?_;refine tZ 5 45 ?_;refine tZ 6 46 ?_;refine cZ 7 ?_;intro K hK;go_simp;refine(Hg z _ _ qh.1 (World.ownsRow.drew Ho) (oH Hu)).mono ?_;rintro e U ⟨v6,rfl,o6,G⟩;have O:Gr r U z v6:=(show Gr r r.drew z z from⟨⟨rfl,rfl,rfl,Uu _,fun _ _ _=>rfl⟩,.inl rfl⟩).trans G;have Hy:Bl w0 U:=qh.1.trans (G.bw qh.1.size (fun k E=>(World.ownsRow.lt Ho k E).1));refine hK.out _ _ (Hw _ Hy (O.g.cell D Hj.1) (O.g.cell S Hj.2) (O.g.cell Hc Hj.2)) (fun qh=> ?_);clear hK K;try simp only [zP]
     refine tZ 8 1 ?_;refine zD ?_;have Hv:Hid (Own U w0.heap.size v6 (zs0++(uvF 9 m.length++(m.take (k+1)).flatMap (kB l f p)))):=hid (by rw [Hf.out,V.out];simpa using o6);have Ht:=hid (Hs.trans O);have Hx:Hid (w1.heap.size<=U.heap.size):=hid (oH O.g.size);clear o6 G O Hy qh S Hc D H1 Gk Hg;go_wp2_with fail;go_roundw;case rel=>exact⟨k+1,H8,oN,Hv,Ht,Hx⟩
     case measure=>exact oE
    ·have V:Hid (kB l f p (s,2)=Qae s++([2]++mB (dsK l p (s,2) l.length) 2)):=hid (by unfold kB;rw [if_neg (show¬(2:Int)=3 by decide)]);obtain⟨z,r,Ha,P,Z⟩:=QcQ w0.heap.size v3 _ [2] (Ub J.heap.size) 1 1 (J.alloc (Uj #[Ug .u8 2] 5)) (World.ownsRow.alloc Hn _) rfl (fun i u hu=>cell_one_new _ _ _ i u hu) (by have:=H.1;have:=Hp.out;simp;omega) (by have q:=Q.out;rw [V.out] at q;simp only [Vg] at q ⊢;simp at q ⊢;omega);have o:Gr B r u1 z:=Hk.trans ((Gr.alloc (Gr.refl J v3) _).trans Z);have S:=o.g.cell L.c0 C;have Hc:=o.g.cell L.c1 C;have t:=Gd.trans o;have D:=t.g.cell H6.c0 Hr;have I:Bl w0 r:=H2.trans (t.bw H.1 (fun k E=>(Hb k E).1));have H1:w1.heap.size<=r.heap.size:=(by have q:=Hp.out;have A:=Z.g.size;simp at A;omega);have Ho:=hid P;have Hs:=hid t;have H3:=hid I;have Hu:Hid ((zs++Qae s++[2]).length+(mB (dsK l p (s,2) l.length) 2).length<=90000000):=hid (by have q:=Q.out;rw [V.out] at q;simp only [Vg] at q ⊢;omega);obtain⟨a1,Hd⟩:=zE (mF (N (Qad p 3++[(s,2)])));obtain⟨a2,He⟩:=zE (mS (N (Qad p 3++[(s,2)])));have Hg:=hid (Hm (.inr rfl));rw [Hd,He] at X Hg;have Hj:Hid (Uq w.heap.size≠z.ownBlock/\ Uq wr.heap.size≠z.ownBlock):=hid ⟨by
      rcases t.l with e|⟨j,e,hj⟩
      ·rw [e];exact Hr
      ·rw [e];intro M;injection M with M;have:=H.2.1;omega,by
      rcases o.l with e|⟨j,e,hj⟩
      ·rw [e];exact C
      ·rw [e];intro M;injection M with M;have:=L.lt;omega⟩
     have Hw:Hid (∀w',Bl w0 w' ->w'.cell? (Ub w.heap.size)=Uq (.map m0) ->w'.cell? (Ub wr.heap.size)=Uq (Um s) ->w'.cell? (Ua wr.heap.size 1)=Uq (Ud 2) ->(Bl w0 w'/\ w'.cell? (Ub w.heap.size)=Uq (.map m0)/\ w'.cell? (Ub wr.heap.size)=Uq (Um s)/\ w'.cell? (Ua wr.heap.size 1)=Uq (Ud 2)/\ (Instr.lookup 169 (.map m0) (Uo #[Um s,Ud 2]) false).run prog w'=.ok (Uo #[.map a1,.map a2]) w')):=hid (fun w' q A h3 h4=>⟨q,A,h3,h4,X w' q⟩);clear P Z o t I Hm X Hd He Q Hn Hk;go_wp2_with (at_builtin;refine Qac rfl _ _ _ _ rfl Ha (by rfl) (by rfl) rfl ?_;clear Ha);refine zG Hw H3.drew D S Hc (fun qh=> ?_);refine tZ 0 40 ?_;refine tZ 1 41 ?_;refine tZ 2 42 ?_;refine tZ 3 43 ?_;refine tZ 4 44 ?_;refine tZ 5 45 ?_;refine tZ 6 46 ?_;refine cZ 7 ?_;intro K hK;go_simp;refine(Hg z _ _ qh.1 (World.ownsRow.drew Ho) (oH Hu)).mono ?_;rintro e U ⟨v6,rfl,o6,G⟩;have O:Gr r U z v6:=(show Gr r r.drew z z from⟨⟨rfl,rfl,rfl,Uu _,fun _ _ _=>rfl⟩,.inl rfl⟩).trans G;have Hy:Bl w0 U:=qh.1.trans (G.bw qh.1.size (fun k E=>(World.ownsRow.lt Ho k E).1));refine hK.out _ _ (Hw _ Hy (O.g.cell D Hj.1) (O.g.cell S Hj.2) (O.g.cell Hc Hj.2)) (fun qh=> ?_);clear hK K;try simp only [zP]
     refine tZ 8 1 ?_;refine zD ?_;have Hv:Hid (Own U w0.heap.size v6 (zs0++(uvF 9 m.length++(m.take (k+1)).flatMap (kB l f p)))):=hid (by rw [Hf.out,V.out];simpa using o6);have Ht:=hid (Hs.trans O);have Hx:Hid (w1.heap.size<=U.heap.size):=hid (oH O.g.size);clear o6 G O Hy qh S Hc D H1 Gk Hg;go_wp2_with fail;go_roundw;case rel=>exact⟨k+1,H8,oN,Hv,Ht,Hx⟩
     case measure=>exact oE
    ·have V:Hid (kB l f p (s,3)=Qae s++([3]++tB l f (p++[s]))):=hid (by unfold kB;rw [if_pos rfl]);obtain⟨z,r,Ha,P,Z⟩:=QcQ w0.heap.size v3 _ [3] (Ub J.heap.size) 1 1 (J.alloc (Uj #[Ug .u8 3] 5)) (World.ownsRow.alloc Hn _) rfl (fun i u hu=>cell_one_new _ _ _ i u hu) (by have:=H.1;have:=Hp.out;simp;omega) (by have q:=Q.out;rw [V.out] at q;simp only [Vg] at q ⊢;simp at q ⊢;omega);have o:Gr B r u1 z:=Hk.trans ((Gr.alloc (Gr.refl J v3) _).trans Z);have S:=o.g.cell L.c0 C;have Hc:=o.g.cell L.c1 C;have t:=Gd.trans o;have D:=t.g.cell H6.c0 Hr;have I:Bl w0 r:=H2.trans (t.bw H.1 (fun k E=>(Hb k E).1));have H1:w1.heap.size<=r.heap.size:=(by have q:=Hp.out;have A:=Z.g.size;simp at A;omega);have Ho:=hid P;have Hs:=hid t;have H3:=hid I;have Hu:Hid ((zs++Qae s++[3]).length+(tB l f (p++[s])).length<=90000000):=hid (by have q:=Q.out;rw [V.out] at q;simp only [Vg] at q ⊢;omega);have G1:=X r I;obtain⟨a1,Hd⟩:=zE (mF (N (Qad p 3++[(s,3)])));obtain⟨a2,He⟩:=zE (mS (N (Qad p 3++[(s,3)])));have Gc:=hid (G7 s G3 z _ r I P Hu);rw [Hd,He] at G1 Gc;clear P Z o t I Hm X Hd He Q Hn Hk;go_wp2_with (at_builtin;refine Qac rfl _ _ _ _ rfl Ha (by rfl) (by rfl) rfl ?_;clear Ha);refine Gc.mono ?_;rintro e U ⟨v6,rfl,o6,G⟩;have Hv:Hid (Own U w0.heap.size v6 (zs0++(uvF 9 m.length++(m.take (k+1)).flatMap (kB l f p)))):=hid (by rw [Hf.out,V.out];simpa using o6);have Ht:=hid (Hs.trans G);have Hx:Hid (w1.heap.size<=U.heap.size):=hid (oH G.g.size);clear o6 G G1 S Hc D Gc H1 Gk;go_wp2_with fail;go_roundw;case rel=>exact⟨k+1,H8,oN,Hv,Ht,Hx⟩
     case measure=>exact oE
   ·obtain rfl:k=m.length:=oM;have HF:Hid (zs0++(uvF 9 m.length++(m.take m.length).flatMap (kB l f p))=zs0++TB):=hid (by rw [VQ,Gs.out]);go_wp2_with fail;go_ret;refine⟨_,rfl,by rw [<- HF.out];exact H4,?_⟩;exact(Gr.of_below (b:=bv) Ga).trans Hl
theorem Qgy (a:Option Us)(c:Nat)(l:List Lf)(x:Option Us)(n d:Nat)(R F T:Nat ->Int)(w:Ur)(hn:l.length<=1048576)(hp:LBd l)(hi:∀i,LfI (gL l i))(hm:n<=1048576)(h:QbK w a l)(h':QaD w x n R F T):
  Cl 108 #[Uo #[Uf a l.length c,Uf x n d]] w fun e w'=>∃v zs k,e=Ui (Ul #[v,Ud k])/\ psZ R F T n l=(zs,k)/\ Own w' w.heap.size v zs/\ Bl w w':=by
 obtain⟨W,u⟩:=zE (w.alloc (Uj #[Uf a l.length c,Uf x n d] 40));have p:Bl w W:=u▸zO _ _;have C:Bx2 W w.heap.size (Uf a l.length c) (Uf x n d):=u▸Bx2.made _ _ _ _;obtain⟨k0,k1⟩:=C.q2;have HL:=hid (h.bw p);have HR:=hid (h'.bw p);have Hb:=hid p;clear h h' p C;by_cases j:Qcn R F T n l
 ·have y:=hid (Qfl a c l x n d R F T W hn hp hi hm HL HR j);have Hg:=hid (fun h=>Qe0 j h);have Hf:=hid (fun h=>QdM j h);have Hi:=hid (And.intro j.put_len j.tree_len);have Hd:Hid ((psB R F T n l).length<=1000000000):=hid (by have h1:=j.put_len;have h2:=j.tree_len;unfold psB;rw [Vg];omega);have He:Hid (QeJ (Lk R F T n)++tB l 8 []=psB R F T n l):=hid rfl;obtain⟨Z,J⟩:=zE (psB R F T n l);obtain⟨P,q⟩:=zE (psZ R F T n l);rw [J,q] at Hg Hf;rw [J] at Hd He;rw [q];clear J q;have b:=hid j;clear j;go_enter func108,ntmps108;go_wp2_with fail;try rw [u]
  clear u;refine y.mono ?_;rintro e w1 ⟨⟨x0,H,D,G,N,B,rfl,Ha,_,_,_,hT,hN,hI⟩,z⟩;obtain⟨w2,E⟩:=zE (w1.alloc (Uj #[.map (Uq x0.1),.map (Uq x0.2),.map (Uq H)] 176));have s:Bl w1 w2:=E▸zO _ _;have Y:Bx3 w2 w1.heap.size (.map (Uq x0.1)) (.map (Uq x0.2)) (.map (Uq H)):=E▸Bx3.made _ _ _ _ _;obtain⟨c0,c1,c2⟩:=Y.q3;have O:=hid Y;have HZ:=hid (Qaa Hb (Qaa z s));have A:=Qax.1 b.1;have S:=hid (fun m(hb3:Bl w2 m)=>Qjj ((Ha.bw s).bw hb3) (hid (fun r=>Ux (Qbz R F T n r) A.2)) (hid (fun r=>(QbT n A.1 r).1)) (hid (QdU n A.1)));have Hh:Hid (∀(bv:Value) (m:Ur),Bl w2 m ->Own m w2.heap.size bv (QeJ (Lk R F T n)) ->Cl 129 #[Uo #[.map (Uq x0.1),.map (Uq x0.2)],bv] m fun e w'=>∃v,e=Ui v/\ Own w' w2.heap.size v Z/\ Gr m w' bv v):=hid (fun bv m hb3 ho3=>by
   have:=Qgl l w2 B (9*l.length) N (hT.bw s) hI (oH b.2.1) b.2.2.1 b.lvB 8 [] rfl oM bv _ m hb3 ho3 (oH Hi);rw [show N (Qad [] 3)=Uq x0 from hN,He.out] at this;exact this)
  clear z s Y hT hN hI Ha y k0 k1 A;go_wp2_with fail;try rw [E]
  clear E;have o:Hid (∀w',Bl w2 w' ->(Bl w2 w'/\ w'.cell? (Ub w1.heap.size)=Uq (.map (Uq x0.1))/\ w'.cell? (Ua w1.heap.size 1)=Uq (.map (Uq x0.2))/\ w'.cell? (Ua w1.heap.size 2)=Uq (.map (Uq H)))):=hid (fun w' hB=>by
   have X:=O.bw hB O.lt;exact⟨hB,X.c0,X.c1,X.c2⟩)
  clear c0 c1 c2 O;refine zS o (fun qh=> ?_);refine tZ 0 14 ?_;refine tZ 1 15 ?_;refine tZ 2 16 ?_;refine tZ 3 17 ?_;refine cZ 4 ?_;intro K t;go_simp;refine(S _ qh.1).mono ?_;rintro e m ⟨v3,rfl,o3,b3⟩;have g:=Qaa qh.1 b3;have Q:=hid (Own.weak o3 qh.1.size);refine t.out _ _ (o _ g) (fun qh=> ?_);clear t K;try simp only [zP]
  refine cZ 5 ?_;intro K t;go_simp;refine(Hh v3 m g Q).mono ?_;rintro e w4 ⟨v4,rfl,L,g4⟩;have I:Bl w2 w4:=g.trans (g4.bw g.size (fun k hk=>(World.ownsRow.lt Q k hk).1));refine t.out _ _ (o _ I) (fun qh=> ?_);clear t K;try simp only [zP]
  refine tZ 6 6 ?_;refine zD ?_;have Hc:=hid (Qaa HZ I);have Hj:=hid (Own.weak L HZ.size);obtain⟨av,cv,rfl,_⟩:=L.any;have Hk:=Hd.out;clear g4 L Q g I b3 o3 qh Hh S o;by_cases hz:Z.length<=4000
  ·have U:=hid (Hg hz);have d1:decide ((4000:Int)<(Z.length:Int))=false:=oS;have d2:decide (4000<Z.length)=false:=oS;go_wp2_with fail;go_ret2;exact⟨_,Z,0,rfl,U,Hj,Hc⟩
  ·have U:=hid (Hf hz);have d1:decide ((4000:Int)<(Z.length:Int))=true:=oS;have d2:decide (4000<Z.length)=true:=oS;go_wp2_with fail;go_ret2;exact⟨_,[],2,rfl,U,Yr _ _ _ _,Hc⟩
 ·have y:=hid (Qev a c l x n d R F T W hn hp hi hm HL HR j);have V:=hid (Qig j);obtain⟨P,q⟩:=zE (psZ R F T n l);rw [q] at V;rw [q];clear q j;go_enter func108,ntmps108;go_wp2_with fail;try rw [u]
  clear u;refine y.mono ?_;rintro e w1 ⟨rfl,z⟩;have M:=hid (Qaa Hb z);clear z y k0 k1;go_wp2_with fail;go_ret2;first|exact⟨_,[],1,rfl,V,Yr _ _ _ _,M⟩|exact⟨_,[],1,rfl,V,Yr _ _ _ _,M.alloc M.size _⟩
noncomputable def sxZ (S:Sx):List Int×Int:=psZ S.R S.F S.T S.n S.l
noncomputable def QeI (S:Sx):Bool:=decide ((sxZ S).2=0)
noncomputable def rpB (id:Int)(S S':Sx):Bool:=decide (0<=id) && (decide (id<8) && (QeI S && QeI S'))
theorem Qh3 (S:Sx):(sxZ S).1.length<=4000:=QnZ _ _ _ _ _
theorem QeD (a x:Option Us)(c d:Nat)(S:Sx)(w:Ur)(hc:S.l.length<=c)(hcm:c<=9223372036854775807)(hm:S.Sm)(h:QdB w a S.l)(h':QaD w x S.n S.R S.F S.T):
  Cl 42 #[Uo #[Uf a S.l.length c,Uf x S.n d]] w fun e w'=>∃v zs k,e=Ui (Ul #[v,Ud k])/\ sxZ S=(zs,k)/\ Own w' w.heap.size v zs/\ Bl w w':=
 QdA a c S.l x S.n d S.R S.F S.T w hc hcm hm.l1 hm.p1 hm.n1 h h.seg h'
theorem Qgx (a x:Option Us)(c d:Nat)(S:Sx)(w:Ur)(hi:∀i,LfI (gL S.l i))(hm:S.Sm)(h:SAt w a x S):
  Cl 108 #[Uo #[Uf a S.l.length c,Uf x S.n d]] w fun e w'=>∃v zs k,e=Ui (Ul #[v,Ud k])/\ sxZ S=(zs,k)/\ Own w' w.heap.size v zs/\ Bl w w':=
 Qgy a c S.l x S.n d S.R S.F S.T w hm.l1 hm.p1 hi hm.n1 h.lf h.rn
theorem QjX (a x:Option Us)(c d:Nat)(S:Sx)(w:Ur)(hc:S.l.length<=c)(hcm:c<=9223372036854775807)(hm:S.Sm)(h:QdB w a S.l)(h':QaD w x S.n S.R S.F S.T):
  Cl 27 #[Uo #[Uf a S.l.length c,Uf x S.n d]] w (Rt w (Un (QeI S))):=by
 obtain⟨W,m⟩:=zE (w.alloc (Uj #[Uf a S.l.length c,Uf x S.n d] 40));have j:Bl w W:=m▸zO _ _;have r:Bx2 W w.heap.size (Uf a S.l.length c) (Uf x S.n d):=m▸Bx2.made _ _ _ _;obtain⟨k0,p⟩:=r.q2;have u:=hid (QeD a x c d S W hc hcm hm (h.bw j) (h'.bw j));have t:=hid j;have q:Hid (QeI S=decide ((sxZ S).2=0)):=hid rfl;obtain⟨B,z⟩:=zE (QeI S);rw [z] at q ⊢;clear j r h h' z;go_enter func27,ntmps27;go_wp2_with fail;try rw [m]
 clear m;refine u.mono ?_;rintro e w1 ⟨v,s,k,rfl,g,b,y⟩;have o:=hid (Qaa t y);have i:Hid (B=(k==0)):=hid (by rw [q.out,g];rfl);clear y b g u k0 p q;go_wp2_with fail;go_ret;exact⟨by rw [i.out];rfl,o⟩
theorem Qqv (a x:Option Us)(c d:Nat)(S:Sx)(w:Ur)(hi:∀i,LfI (gL S.l i))(hm:S.Sm)(h:SAt w a x S):
  Cl 82 #[Uo #[Uf a S.l.length c,Uf x S.n d]] w (Rt w (Un (QeI S))):=by
 obtain⟨W,j⟩:=zE (w.alloc (Uj #[Uf a S.l.length c,Uf x S.n d] 40));have q:Bl w W:=j▸zO _ _;have r:Bx2 W w.heap.size (Uf a S.l.length c) (Uf x S.n d):=j▸Bx2.made _ _ _ _;obtain⟨k0,s⟩:=r.q2;have u:=hid (Qgx a x c d S W hi hm (h.bw q));have t:=hid q;have m:Hid (QeI S=decide ((sxZ S).2=0)):=hid rfl;obtain⟨B,z⟩:=zE (QeI S);rw [z] at m ⊢;clear q r h z;go_enter func82,ntmps82;go_wp2_with fail;try rw [j]
 clear j;refine u.mono ?_;rintro e w1 ⟨v,A,k,rfl,g,p,y⟩;have o:=hid (Qaa t y);have b:Hid (B=(k==0)):=hid (by rw [m.out,g];rfl);clear y p g u k0 s m;go_wp2_with fail;go_ret;exact⟨by rw [b.out];rfl,o⟩
theorem Qdi (id:Int)(a x a' x':Option Us)(c d c' d':Nat)(S S':Sx)(w:Ur)(hc:S.l.length<=c)(hcm:c<=9223372036854775807)(hc':S'.l.length<=c')(hcm':c'<=9223372036854775807)(hm:S.Sm)(hm':S'.Sm)(h:QdB w a S.l)(k:QaD w x S.n S.R S.F S.T)(h':QdB w a' S'.l)(k':QaD w x' S'.n S'.R S'.F S'.T):
  Cl 21 #[Uo #[Ud id,Uf a S.l.length c,Uf x S.n d,Uf a' S'.l.length c',Uf x' S'.n d']] w (Rt w (Un (rpB id S S'))):=by
 obtain⟨W,q⟩:=zE (w.alloc (Uj #[Ud id,Uf a S.l.length c,Uf x S.n d,Uf a' S'.l.length c',Uf x' S'.n d'] 42));have m:Bl w W:=q▸zO _ _;have v:Bx5 W w.heap.size (Ud id) (Uf a S.l.length c) (Uf x S.n d) (Uf a' S'.l.length c') (Uf x' S'.n d'):=q▸Bx5.new _ _ _ _ _ _ _;have z:=hid (fun w1(hb:Bl W w1)=>QjX a x c d S w1 hc hcm hm (h.bw (Qaa m hb)) (k.bw (Qaa m hb)));have g:=hid (fun w1(hb:Bl W w1)=>QjX a' x' c' d' S' w1 hc' hcm' hm' (h'.bw (Qaa m hb)) (k'.bw (Qaa m hb)));have r:Hid (rpB id S S'=(decide (0<=id) && (decide (id<8) && (QeI S && QeI S')))):=hid rfl;obtain⟨B,s⟩:=zE (rpB id S S');obtain⟨M,A⟩:=zE (QeI S);obtain⟨O,E⟩:=zE (QeI S');rw [s,A,E] at r;rw [A] at z;rw [E] at g;rw [s];have y:=hid m;have o:=hid v;obtain⟨L,N,X,C,D⟩:=v.q5;clear h h' k k' m v s A E;by_cases Y:0<=id
 ·have b:decide (0<=id)=true:=oW Y;have H:decide (id<0)=false:=oS;by_cases Z:id<8
  ·have p:decide (id<8)=true:=oW Z;have I:decide (8<=id)=false:=oS;have j:Hid (B=(M && O)):=hid (by rw [r.out,b,p];simp);go_enter func21,ntmps21;go_wp2_with fail;try rw [q]
   clear q;refine(z _ zI).mono ?_;rintro e w1 ⟨rfl,u⟩;have i:=o.bw u o.lt;have J:=i.c3;have K:=i.c4;have Q:=hid (Qaa y u);have U:=hid (g w1 u);clear u i L N X C D z g o;cases M with
   | false=>
    have t:Hid (B=false):=hid (by rw [j.out];rfl);go_wp2_with fail;go_ret;exact⟨by rw [t.out];rfl,Q⟩
   | true=>
    have t:Hid (B=O):=hid (by rw [j.out];rfl);go_wp2_with fail;refine U.mono ?_;rintro e w2 ⟨rfl,V⟩;have G:=hid (Qaa Q V);clear V U J K;go_wp2_with fail;go_ret;exact⟨by rw [t.out];rfl,G⟩
  ·have p:decide (id<8)=false:=oW Z;have I:decide (8<=id)=true:=oS;have j:Hid (B=false):=hid (by rw [r.out,p];simp);go_enter func21,ntmps21;go_wp2_with fail;try rw [q]
   go_ret;exact⟨by rw [j.out];rfl,y⟩
 ·have b:decide (0<=id)=false:=oW Y;have H:decide (id<0)=true:=oS;have j:Hid (B=false):=hid (by rw [r.out,b];simp);go_enter func21,ntmps21;go_wp2_with fail;try rw [q]
  go_ret;exact⟨by rw [j.out];rfl,y⟩
theorem QpH (id:Int)(w:Ur):Cl 81 #[Ud id] w fun e w'=>e=Ui (Un (decide (0<=id) && decide (id<8)))/\ w'=w:=by
 by_cases m:0<=id
 ·have j:decide (0<=id)=true:=oW m;by_cases q:id<8
  ·have k:decide (id<8)=true:=oW q;rw [j,k];go_enter func81,ntmps81;go_wp2_with fail;go_ret;exact⟨rfl,rfl⟩
  ·have k:decide (id<8)=false:=oW q;rw [j,k];go_enter func81,ntmps81;go_wp2_with fail;go_ret;exact⟨rfl,rfl⟩
 ·have j:decide (0<=id)=false:=oW m;rw [j];go_enter func81,ntmps81;go_wp2_with fail;go_ret;exact⟨rfl,rfl⟩
theorem QcY (id:Int)(a x a' x':Option Us)(c d c' d':Nat)(S S':Sx)(w:Ur)(hi:∀i,LfI (gL S.l i))(hi':∀i,LfI (gL S'.l i))(hm:S.Sm)(hm':S'.Sm)(h:SAt w a x S)(h':SAt w a' x' S'):
  Cl 52 #[Uo #[Ud id,Uf a S.l.length c,Uf x S.n d,Uf a' S'.l.length c',Uf x' S'.n d']] w (Rt w (Un (rpB id S S'))):=by
 obtain⟨W,m⟩:=zE (w.alloc (Uj #[Ud id,Uf a S.l.length c,Uf x S.n d,Uf a' S'.l.length c',Uf x' S'.n d'] 42));have u:Bl w W:=m▸zO _ _;have y:Bx5 W w.heap.size (Ud id) (Uf a S.l.length c) (Uf x S.n d) (Uf a' S'.l.length c') (Uf x' S'.n d'):=m▸Bx5.new _ _ _ _ _ _ _;have g:=hid (fun w1(hb:Bl W w1)=>Qqv a x c d S w1 hi hm (h.bw (Qaa u hb)));have t:=hid (fun w1(hb:Bl W w1)=>Qqv a' x' c' d' S' w1 hi' hm' (h'.bw (Qaa u hb)));have r:Hid (rpB id S S'=(decide (0<=id) && (decide (id<8) && (QeI S && QeI S')))):=hid rfl;obtain⟨B,A⟩:=zE (rpB id S S');obtain⟨O,E⟩:=zE (QeI S);obtain⟨Q,M⟩:=zE (QeI S');rw [A,E,M] at r;rw [E] at g;rw [M] at t;rw [A];have b:=hid (fun w=>QpH id w);have z:=hid u;have p:=hid y;obtain⟨X,C,D,F,P⟩:=y.q5;clear h h' u y A E M;by_cases Z:0<=id
 ·have k:decide (0<=id)=true:=oW Z;have J:decide (id<0)=false:=oS;by_cases G:id<8
  ·have q:decide (id<8)=true:=oW G;have K:decide (8<=id)=false:=oS;have j:Hid (B=(O && Q)):=hid (by rw [r.out,k,q];simp);go_enter func52,ntmps52;go_wp2_with fail;refine(b _).mono ?_;rintro e H ⟨rfl,rfl⟩;rw [k,q];go_wp2_with fail;try rw [m]
   clear m;refine(g _ zI).mono ?_;rintro e w1 ⟨rfl,v⟩;have s:=p.bw v p.lt;have L:=s.c3;have N:=s.c4;have U:=hid (Qaa z v);have V:=hid (t w1 v);clear v s X C D F P g t p;cases O with
   | false=>
    have o:Hid (B=false):=hid (by rw [j.out];rfl);go_wp2_with fail;go_ret;exact⟨by rw [o.out];rfl,U⟩
   | true=>
    have o:Hid (B=Q):=hid (by rw [j.out];rfl);go_wp2_with fail;refine V.mono ?_;rintro e w2 ⟨rfl,Y⟩;have I:=hid (Qaa U Y);clear Y V L N;go_wp2_with fail;go_ret;exact⟨by rw [o.out];rfl,I⟩
  ·have q:decide (id<8)=false:=oW G;have K:decide (8<=id)=true:=oS;have j:Hid (B=false):=hid (by rw [r.out,q];simp);go_enter func52,ntmps52;go_wp2_with fail;refine(b _).mono ?_;rintro e H ⟨rfl,rfl⟩;rw [k,q];go_wp2_with fail;try rw [m]
   go_ret;exact⟨by rw [j.out];rfl,z⟩
 ·have k:decide (0<=id)=false:=oW Z;have J:decide (id<0)=true:=oS;have j:Hid (B=false):=hid (by rw [r.out,k];simp);go_enter func52,ntmps52;go_wp2_with fail;refine(b _).mono ?_;rintro e H ⟨rfl,rfl⟩;rw [k];go_wp2_with fail;try rw [m]
  go_ret;exact⟨by rw [j.out];rfl,z⟩
theorem Btw.wide(h:Btw lo hi w w')(h1:lo'<=lo)(h2:hi<=hi'):Btw lo' hi' w w':=⟨h.os,h.tape,h.output,h.size,fun g hg ho=>h.block g hg oM⟩
theorem SNw.btw{S:Sx}(h:SNw w lo hi g k S)(hb:Btw lo' hi' w w')(hd:hi'<=lo):(∃m,w'.ownsRow lo 123 3 (Uf (Uc k) S.n S.n) S.n m)/\ LMk w' lo hi g S.l:=
 ⟨by obtain⟨m,j⟩:=h.ro;exact⟨m,QaO j fun q hq=>hb.block q (j.lt q hq).2 (.inr (oH ((j.lt q hq).1)))⟩,h.lm.same fun q h1 h2=>hb.block q (Ut h2 h.hl) (.inr oM)⟩
theorem Own.cellset(h:Own w B v zs)(q:Us)(u:Value)(hq:q.block<B):Own (w.setCell q u) B v zs:=
 QaO h fun g hg=>zH _ _ _ _ (oH ((World.ownsRow.lt h g hg).1))
noncomputable def whZ (id:Int)(S S':Sx):Int×List Int×Bool:=if rpB id S S'=true then(2,(sxZ S).1,true) else(0,[],false)
theorem QkB (id:Int)(a x a' x':Option Us)(c d c' d':Nat)(S S':Sx)(w:Ur)(hc:S.l.length<=c)(hcm:c<=9223372036854775807)(hc':S'.l.length<=c')(hcm':c'<=9223372036854775807)(hm:S.Sm)(hm':S'.Sm)(h:QdB w a S.l)(k:QaD w x S.n S.R S.F S.T)(h':QdB w a' S'.l)(k':QaD w x' S'.n S'.R S'.F S'.T):
  Cl 24 #[Uo #[Ud id,Uf a S.l.length c,Uf x S.n d,Uf a' S'.l.length c',Uf x' S'.n d']] w fun e w'=>∃K v u B,e=Ui (Ul #[Uo #[Ud K,v],Un B])/\ whZ id S S'=(K,u,B)/\ Own w' w.heap.size v u/\ Bl w w':=by
 obtain⟨W,q⟩:=zE ((w.alloc (Uj #[Ud id,Uf a S.l.length c,Uf x S.n d,Uf a' S'.l.length c',Uf x' S'.n d'] 42)).alloc (Uj #[Ud 0,Ue] 47));have m:Bl w W:=q▸Qak _ _ _;have V:Bx2 W (w.heap.size+1) (Ud 0) Ue:=by
  rw [<- q];have:=Bx2.made (w.alloc (Uj #[Ud id,Uf a S.l.length c,Uf x S.n d,Uf a' S'.l.length c',Uf x' S'.n d'] 42)) (Ud 0) Ue 47;simpa using this
 have t:Bx5 W w.heap.size (Ud id) (Uf a S.l.length c) (Uf x S.n d) (Uf a' S'.l.length c') (Uf x' S'.n d'):=q▸(Bx5.new _ _ _ _ _ _ _).up _;have r:=hid (Qdi id a x a' x' c d c' d' S S' W hc hcm hc' hcm' hm hm' (h.bw m) (k.bw m) (h'.bw m) (k'.bw m));have i:=hid (fun w1(hb:Bl W w1)=>QeD a x c d S w1 hc hcm hm (h.bw (Qaa m hb)) (k.bw (Qaa m hb)));have b:Hid (rpB id S S'=true ->whZ id S S'=(2,(sxZ S).1,true)):=hid (fun h=>if_pos h);have p:Hid (rpB id S S'=false ->whZ id S S'=(0,[],false)):=hid (fun h=>if_neg (by rw [h];simp));have G:=hid m;have g:=hid t;have z:=hid V;obtain⟨L,N,X,C,D⟩:=t.q5;clear h h' k k' m t V;cases hr:rpB id S S' with
 | true=>
  rw [hr] at r;have s:=hid (b hr);clear hr b p;go_enter func24,ntmps24;go_wp2_with fail;try rw [q]
  clear q;refine r.mono ?_;rintro e w1 ⟨rfl,j⟩;have A:=g.bw j g.lt;have p1:=A.c1;have U:=A.c2;have y:=hid (Qaa G j);have H:=hid (i w1 j);have o:=hid (z.bw j z.lt);clear j A r g L N X C D i;go_wp2_with fail;refine H.mono ?_;rintro e w2 ⟨v,u,kk,rfl,I,Q,E⟩;have Ha:=hid Q;have J:w.heap.size+1<w1.heap.size:=o.lt;have P:=hid (Qaa y E);have HZ:Hid ((sxZ S).1=u):=hid (by rw [I]);obtain⟨va,vc,rfl,_⟩:=Q.any;have Z:=o.bw E o.lt;obtain⟨M,O,ff⟩:=Z.p2;clear I Q E H p1 U Z;go_wp2_with fail;refine zF (v:=Ul #[Uo #[Ud 2,Uf va u.length vc],Un true]) (by simp [results,results24,go_sem,M,O]) ⟨2,_,u,true,rfl,by rw [s.out,HZ.out],?_,?_⟩
  ·exact((Ha.cellset _ _ J).cellset _ _ J).weak y.size
  ·exact(P.setCell oP _).setCell oP _
 | false=>
  rw [hr] at r;have s:=hid (p hr);clear hr b p;go_enter func24,ntmps24;go_wp2_with fail;try rw [q]
  clear q;refine r.mono ?_;rintro e w1 ⟨rfl,j⟩;have y:=hid (Qaa G j);have Y:=z.bw j z.lt;obtain⟨M,O,ff⟩:=Y.p2;clear j r g L N X C D i Y;go_wp2_with fail;refine zF (v:=Ul #[Uo #[Ud 0,Ue],Un false]) (by simp [results,results24,go_sem,M,O]) ⟨0,_,[],false,rfl,s,Yr _ _ _ _,?_⟩;first|exact y.out|exact(y.setCell oP _).setCell oP _
theorem QjH (id:Int)(a x a' x':Option Us)(c d c' d':Nat)(S S':Sx)(w:Ur)(hi:∀i,LfI (gL S.l i))(hi':∀i,LfI (gL S'.l i))(hm:S.Sm)(hm':S'.Sm)(h:SAt w a x S)(h':SAt w a' x' S'):
  Cl 109 #[Uo #[Ud id,Uf a S.l.length c,Uf x S.n d,Uf a' S'.l.length c',Uf x' S'.n d']] w fun e w'=>∃K v q B,e=Ui (Ul #[Uo #[Ud K,v],Un B])/\ whZ id S S'=(K,q,B)/\ Own w' w.heap.size v q/\ Bl w w':=by
 obtain⟨W,k⟩:=zE ((w.alloc (Uj #[Ud id,Uf a S.l.length c,Uf x S.n d,Uf a' S'.l.length c',Uf x' S'.n d'] 42)).alloc (Uj #[Ud 0,Ue] 47));have u:Bl w W:=k▸Qak _ _ _;have V:Bx2 W (w.heap.size+1) (Ud 0) Ue:=by
  rw [<- k];have:=Bx2.made (w.alloc (Uj #[Ud id,Uf a S.l.length c,Uf x S.n d,Uf a' S'.l.length c',Uf x' S'.n d'] 42)) (Ud 0) Ue 47;simpa using this
 have g:Bx5 W w.heap.size (Ud id) (Uf a S.l.length c) (Uf x S.n d) (Uf a' S'.l.length c') (Uf x' S'.n d'):=k▸(Bx5.new _ _ _ _ _ _ _).up _;have m:=hid (QcY id a x a' x' c d c' d' S S' W hi hi' hm hm' (h.bw u) (h'.bw u));have o:=hid (fun w1(hb:Bl W w1)=>Qgx a x c d S w1 hi hm (h.bw (Qaa u hb)));have b:Hid (rpB id S S'=true ->whZ id S S'=(2,(sxZ S).1,true)):=hid (fun h=>if_pos h);have p:Hid (rpB id S S'=false ->whZ id S S'=(0,[],false)):=hid (fun h=>if_neg (by rw [h];simp));have G:=hid u;have z:=hid g;have y:=hid V;obtain⟨L,N,X,C,D⟩:=g.q5;clear h h' u g V;cases hr:rpB id S S' with
 | true=>
  rw [hr] at m;have s:=hid (b hr);clear hr b p;go_enter func109,ntmps109;go_wp2_with fail;try rw [k]
  clear k;refine m.mono ?_;rintro e w1 ⟨rfl,j⟩;have A:=z.bw j z.lt;have p1:=A.c1;have U:=A.c2;have r:=hid (Qaa G j);have H:=hid (o w1 j);have t:=hid (y.bw j y.lt);clear j A m z L N X C D o;go_wp2_with fail;refine H.mono ?_;rintro e w2 ⟨v,q,kk,rfl,I,Q,E⟩;have P:=hid Q;have J:w.heap.size+1<w1.heap.size:=t.lt;have F:=hid (Qaa r E);have R:Hid ((sxZ S).1=q):=hid (by rw [I]);obtain⟨va,vc,rfl,_⟩:=Q.any;have Z:=t.bw E t.lt;obtain⟨M,O,T⟩:=Z.p2;clear I Q E H p1 U Z;go_wp2_with fail;refine zF (v:=Ul #[Uo #[Ud 2,Uf va q.length vc],Un true]) (by simp [results,results109,go_sem,M,O]) ⟨2,_,q,true,rfl,by rw [s.out,R.out],?_,?_⟩
  ·exact((P.cellset _ _ J).cellset _ _ J).weak r.size
  ·exact(F.setCell oP _).setCell oP _
 | false=>
  rw [hr] at m;have s:=hid (p hr);clear hr b p;go_enter func109,ntmps109;go_wp2_with fail;try rw [k]
  clear k;refine m.mono ?_;rintro e w1 ⟨rfl,j⟩;have r:=hid (Qaa G j);have Y:=y.bw j y.lt;obtain⟨M,O,T⟩:=Y.p2;clear j m z L N X C D o Y;go_wp2_with fail;refine zF (v:=Ul #[Uo #[Ud 0,Ue],Un false]) (by simp [results,results109,go_sem,M,O]) ⟨0,_,[],false,rfl,s,Yr _ _ _ _,?_⟩;first|exact r.out|exact(r.setCell oP _).setCell oP _
def Qfy (x b:Int):Int:=IntKind.u64.wrap (bits BinOp.xor IntKind.u64 x b*1099511628211)
def dig (f:Nat ->Int):Nat ->Int
 | 0=>14695981039346656037
 | k+1=>Qfy (dig f k) (f k)
theorem QiQ (a:Option Us)(n c:Nat)(f:Nat ->Int)(w:Ur)(hn:n<=1048576)(hf:Byt f)(h:Seg w a n f):
  Cl 43 #[Uf a n c] w fun e w'=>e=Ui (Ug .u64 (dig f n))/\ w'=w:=by
 have m:∀k,k<n ->∃b off,a=Uq (Ua b off)/\ b<w.heap.size/\∀i,i<n ->w.cell? (Ua b (off+i))=Uq (Ug .u8 (f i)):=by
  intro k u;rcases h with h|h;omega;exact h
 clear h;by_cases q:n=0
 ·subst q;go_enter func43,ntmps43;go_wp2;refine wp_loop_rounds 1 ?_;rw [rounds_succ];go_wp2;go_ret;exact⟨rfl,rfl⟩
 ·obtain⟨b,off,rfl,y,r⟩:=m 0 oM;clear m;go_enter func43,ntmps43;go_wp2;go_loop [3,4] (fun v i=>∃k:Nat,k<=n/\ i=Ud k/\ v=Ug .u64 (dig f k)) (fun _ i=>n - (intOf i).toNat);case atStart=>exact⟨0,Uv _,rfl,rfl⟩
  case round=>
   obtain⟨k,u,rfl,rfl⟩:=hrel;by_cases j:k<n
   ·have z:=r k j;have g:=hf k;go_wp2;go_round;case rel=>exact⟨k+1,j,oN,rfl⟩
    case measure=>exact oE
   ·obtain rfl:k=n:=oM;go_wp2;go_ret;exact⟨rfl,rfl⟩
theorem Qi8 (a:Option Us)(n c:Nat)(f:Nat ->Int)(w:Ur)(hn:n<=1048576)(hf:Byt f)(h:Seg w a n f):
  Cl 112 #[Uf a n c] w fun e w'=>e=Ui (Ug .u64 (dig f n))/\ w'=w:=by
 have m:∀k,k<n ->∃b off,a=Uq (Ua b off)/\ b<w.heap.size/\∀i,i<n ->w.cell? (Ua b (off+i))=Uq (Ug .u8 (f i)):=by
  intro k u;rcases h with h|h;omega;exact h
 clear h;by_cases q:n=0
 ·subst q;go_enter func112,ntmps112;go_wp2;refine wp_loop_rounds 1 ?_;rw [rounds_succ];go_wp2;go_ret;exact⟨rfl,rfl⟩
 ·obtain⟨b,off,rfl,y,r⟩:=m 0 oM;clear m;go_enter func112,ntmps112;go_wp2;go_loop [3,8] (fun v i=>∃k:Nat,k<=n/\ i=Ud k/\ v=Ug .u64 (dig f k)) (fun _ i=>n - (intOf i).toNat);case atStart=>exact⟨0,Uv _,rfl,rfl⟩
  case round=>
   obtain⟨k,u,rfl,rfl⟩:=hrel;by_cases j:k<n
   ·have z:=r k j;have g:=hf k;go_wp2;go_round;case rel=>exact⟨k+1,j,oN,rfl⟩
    case measure=>exact oE
   ·obtain rfl:k=n:=oM;go_wp2;go_ret;exact⟨rfl,rfl⟩
def By (zs:List Int):Prop:=∀z∈zs,0<=z/\ z<256
theorem By.nil:By []:=fun z h=>by cases h
theorem By.app {a b:List Int}(h:By a)(k:By b):By (a++b):=fun z hz=>by
 rcases List.mem_append.1 hz with j|j
 ·exact h z j
 ·exact k z j
theorem By.flat {α:Type}{f:α ->List Int}:∀{ys:List α},(∀y∈ys,By (f y)) ->By (ys.flatMap f):=fun{ys} h z j=>by
 obtain⟨y,k,j⟩:=List.mem_flatMap.1 j;exact h y k z j
theorem By.uv {v:Nat}(h:v<=10000000000):By (uvF 9 v):=QlZ 9 v oM
theorem By.text(h:s.size<=10000000000):By (Qae s):=By.app (By.uv h) (QgG s)
theorem QmW(h:∀p∈l,1<=p.1/\ p.1<=p.2/\ p.2<=1000000000)(i:Nat):(0<=sF l i/\ sF l i<=1000000000)/\ 0<=sT l i/\ sT l i<=1000000000:=by
 unfold sF sT;by_cases hi:i<l.length
 ·have e:l.getD i (0,0)=l[i]:=by simp [UR,hi]
  have:=h _ (UW hi);rw [e];omega
 ·have e:l.getD i (0,0)=(0,0):=by simp [UR,US (Yb hi)]
  rw [e];simp
theorem Qiu {l:List (Int×Int)}(h:∀p∈l,1<=p.1/\ p.1<=p.2/\ p.2<=1000000000):∀k,By (spK l k)
 | 0=>By.nil
 | k+1=>by
  have j:=QmW h k;have m:0<=loK l k:=by
   cases k with
   | zero=>simp [loK]
   | succ k=>have:=QmW h k;simp only [loK];omega
  exact By.app (Qiu h k) (By.app (By.uv oM) (By.uv oM))
theorem Qe2(h:QdC R F T n=true):By (QeJ (Lk R F T n)):=by
 have j:=Qax.1 h;rw [QfJ];have m:=Qgf (Lk R F T n) 8;refine By.app (By.uv oM) (By.flat fun r hr=> ?_);have q:=(Qd5 (Lk R F T n) 8 r).1 hr;have u:=Qbz R F T n r;have k:=(QbT n j.1 r).1.2;have v:=j.2;exact By.app (By.uv oM) (By.app (By.uv oM) (Qiu k _))
theorem QfU {R F T:Nat ->Int}{n:Nat}{l:List Lf}(h:QbU R F T n l l.length)(hb:LvB l):∀f p,By (tB l f p)
 | 0,p=>by intro z k;simp [tB] at k
 | f+1,p=>by
  obtain⟨b,u⟩:=Qem p h l.length zL;have v:=Qff l p l.length;have g:=hb.len;rw [QfV];refine By.app (By.uv oM) (By.flat fun y hy=> ?_);obtain⟨j,r,e⟩:=(u y).1 hy;have M:=Qeu (h j r).1 e;have q:=(Qbh.1 e).2;have o:y.2=1 \/y.2=2 \/y.2=3:=by
   rw [<- q];unfold Qas;dsimp only;split
   ·exact .inr (.inr rfl)
   ·rcases Qhi (gL l j).fl with h|h
    ·exact .inl h
    ·exact .inr (.inl h)
  unfold kB;refine By.app (By.text oM) (By.app (fun z k=>by rw [UV] at k;subst k;omega) ?_);by_cases m:y.2=3
  ·rw [if_pos m];exact QfU h hb f _
  ·rw [if_neg m];unfold mB;have t:=QgS l p y l.length;refine By.app (By.uv oM) (By.flat fun x hx=> ?_);obtain⟨i,hi,_,rfl⟩:=QaZ.1 hx;have s:=hb.rep i hi;have A:=hb.seq i hi;have E:=hb.val i hi;unfold lfB;refine By.app (By.uv oM) (By.app (By.uv oM) ?_);split
   ·exact By.text oM
   ·exact By.nil
theorem By.byt(h:By zs):Byt (fun i=>zs.getD i 0):=fun i=>by
 by_cases hi:i<zs.length
 ·have e:zs.getD i 0=zs[i]:=by simp [UR,hi]
  have:=h _ (UW hi);dsimp only;rw [e];omega
 ·have e:zs.getD i 0=0:=by simp [UR,US (Yb hi)]
  dsimp only;rw [e];omega
theorem Qix (S:Sx):By (sxZ S).1:=by
 unfold sxZ psZ;split
 ·rename_i h;have j:Qcn S.R S.F S.T S.n S.l:=by
   refine Classical.byContradiction fun hn=> ?_;rw [Qaj hn] at h;cases h
  split
  ·exact By.app (Qe2 j.1) (QfU j.2.2.1 j.lvB 8 [])
  ·exact By.nil
 ·exact By.nil
theorem Qjv (f:Nat ->Int):∀n,0<=dig f n/\ dig f n<18446744073709551616
 | 0=>by simp [dig]
 | n+1=>by
  show 0<=Qfy _ _/\ Qfy _ _<_;unfold Qfy;rw [Yt];omega
noncomputable def sxD (S:Sx):Nat:=(dig (fun i=>(sxZ S).1.getD i 0) (sxZ S).1.length).toNat
theorem QmU (S:Sx):dig (fun i=>(sxZ S).1.getD i 0) (sxZ S).1.length=(sxD S:Int):=by
 have:=Qjv (fun i=>(sxZ S).1.getD i 0) (sxZ S).1.length;unfold sxD;omega
theorem QmV (S:Sx):sxD S<18446744073709551616:=by
 have:=Qjv (fun i=>(sxZ S).1.getD i 0) (sxZ S).1.length;unfold sxD;omega
def eB (V:Nat):Nat ->List Int
 | 0=>[]
 | k+1=>((V/256^k%256:Nat):Int)::eB V k
theorem QeX (V:Nat):∀k,(eB V k).length=k
 | 0=>rfl
 | k+1=>by simp [eB,QeX V k]
theorem Qmx (V:Nat):∀k j,j<k ->(eB V k)[j]? =Uq ((V/256^(k - 1 - j)%256:Nat):Int)
 | 0,j,h=>oM
 | k+1,0,h=>by simp [eB]
 | k+1,j+1,h=>by
  simp only [eB,List.getElem?_cons_succ];rw [Qmx V k j oM];congr 5;omega
theorem QlL (V k:Nat):(V:Int)/2^(8*k)%256=((V/256^k%256:Nat):Int):=by
 have e:(2:Nat)^(8*k)=256^k:=by rw [Nat.pow_mul]
 have j:(2:Int)^(8*k)=((256^k:Nat):Int):=e▸oP;rw [j];simp
theorem Qk8 (V:Nat)(w:Ur)(hV:V<18446744073709551616):
  Cl 22 #[Ug .u64 (V:Int)] w fun e w'=>∃v,e=Ui v/\ Own w' w.heap.size v (eB V 8)/\ Bl w w':=by
 go_enter func22,ntmps22;go_wp2_with fail;go_loopw [0,3,4] (fun v o i wr=>∃(k X:Nat),k<=8/\ X<18446744073709551616/\ v=Ug .u64 (X:Int)/\ i=Ud (k:Int)/\ Hid (X=V/256^k)/\ Hid (Bd w wr o (eB V k))) (fun _ _ i _=>8 - (intOf i).toNat);case atStart=>exact⟨0,V,oM,hV,rfl,rfl,hid oP,hid (Bd.made w)⟩
 case round=>
  obtain⟨k,X,Q,O,rfl,rfl,m,j⟩:=hrel;by_cases A:k<8
  ·obtain⟨Y,z⟩:=zE (X%256);obtain⟨Z,h⟩:=zE (X/256);have E:(X:Int)%256=(Y:Int):=oM;have M:(X:Int)/256=(Z:Int):=oM;have H:Int.tmod (X:Int) 256=(Y:Int):=(by rw [Yv oM];exact E);have I:Int.tdiv (X:Int) 256=(Z:Int):=(by rw [Int.tdiv_eq_ediv_of_nonneg oM];exact M);have U:IntKind.u8.wrap (Y:Int)=(Y:Int):=(by rw [IntKind.wrap_u8];omega);have G:IntKind.u64.wrap (Y:Int)=(Y:Int):=QeO _ oM oM;have J:IntKind.u64.wrap (Z:Int)=(Z:Int):=(by rw [Yt];omega);have r:Hid (eB V (k+1)=(Y:Int)::eB V k):=hid (by simp only [eB];rw [<- m.out,z]);have p:Hid (Z=V/256^(k+1)):=hid (by rw [<- h,m.out,Nat.div_div_eq_div_mul,Va]);have s:Z<18446744073709551616:=oM;have y:Own (wr.alloc (Uj #[Ug .u8 (Y:Int)] 5)) wr.heap.size (Uf (Uc wr.heap.size) 1 1) [(Y:Int)]:=by
    have:=World.ownsRow_lit (base:=wr.heap.size) (e:=5) (size:=1) wr #[Ug .u8 (Y:Int)] 1 zL oL rfl;simpa [Own] using this
   obtain⟨v2,w2,g,q,u⟩:=j.front (zO _ _) y (by simp [QeX];omega);have t:Hid (Bd w w2 v2 (eB V (k+1))):=hid ⟨u,by rw [r.out];exact q,Qkt q oP⟩;clear q u y z h j m r;go_wp2_with (at_builtin;refine Qac rfl _ _ _ _ rfl g (by rfl) (by rfl) rfl ?_;clear g);go_roundw;case rel=>exact⟨k+1,Z,A,s,rfl,oN,p,t⟩
   case measure=>exact oE
  ·obtain rfl:k=8:=oM;go_wp2_with fail;go_ret;exact⟨_,rfl,j.o,j.b⟩
theorem QjF (V:Nat)(w:Ur)(hV:V<18446744073709551616):
  Cl 111 #[Ug .u64 (V:Int)] w fun e w'=>∃v,e=Ui v/\ Own w' w.heap.size v (eB V 8)/\ Bl w w':=by
 obtain⟨K,hi,H,I,J⟩:=info_parts Tryz.infoByte;go_enter func111,ntmps111;go_wp2_with (at_make;refine wpList_make_full _ rfl _ _ 30 rfl w.heap.size 5 K _ 1 underlying30 hi H I _ _ _ _ 8 rfl rfl rfl rfl (by rw [J];omega) oL zL ?_;intro w1 t z);have y:Bl w w1:=zI.grown z zL (fun _ h=>by cases h);have o:∃xs,w1.ownsRow w.heap.size 5 1 (Uf (Uc w.heap.size) 8 8) 8 xs:=⟨_,t⟩;clear t z;go_loopw [8] (fun i wr=>∃k:Nat,k<=8/\ i=Ud (k:Int)/\ Hid (Bl w wr)/\∃xs:List Value,Hid (wr.ownsRow w.heap.size 5 1 (Uf (Uc w.heap.size) 8 8) 8 xs)/\ Hid (∀j,8 - k<=j ->j<8 ->xs[j]? =Uq (Ug .u8 ((V/256^(7 - j)%256:Nat):Int)))) (fun i _=>8 - (intOf i).toNat);case atStart=>obtain⟨xs,Z⟩:=o;exact⟨0,Uv _,rfl,hid y,xs,hid Z,hid (fun j h1 h2=>oM)⟩
 case round=>
  clear o y;obtain⟨k,N,rfl,r,xs,m,u⟩:=hrel;by_cases Y:k<8
  ·obtain⟨q,G⟩:=zE (7 - k);have C:(7:Int) - (k:Int)=(q:Int):=oM;have D:q<8:=oM;obtain⟨F,B⟩:=QaA m q oM;have L:=m.frozenAt q;have A:=hid (m.stored q (Ug .u8 ((V/256^k%256:Nat):Int))).1;have U:=m.1;have M:Hid (∀j,8 - (k+1)<=j ->j<8 ->(xs.set q (Ug .u8 ((V/256^k%256:Nat):Int)))[j]? =Uq (Ug .u8 ((V/256^(7 - j)%256:Nat):Int))):=hid (fun j h1 h2=>by
    by_cases Q:j=q
    ·have O:7 - j=k:=oM;rw [O];subst Q;rw [List.getElem?_set_self oM]
    ·rw [List.getElem?_set_ne oM];exact u j oM h2)
   have b:=hid (r.setCell (p:=(Ua w.heap.size q)) zL (Ug .u8 ((V/256^k%256:Nat):Int)));have E:=hid (QlL V k);clear U G;go_wp2_with fail;rw [E.out];go_roundw;case rel=>exact⟨k+1,Y,oN,b,_,A,M⟩
   case measure=>exact oE
  ·obtain rfl:k=8:=oM;have s:Hid (Own wr w.heap.size (Uf (Uc w.heap.size) 8 8) (eB V 8)):=hid (by
    have X:=m.1;have e:xs=(eB V 8).map (Value.int .u8):=by
     apply Ve;intro j;by_cases g:j<8
     ·rw [u j oM g,VN,Qmx V 8 j g];rfl
     ·rw [US oM,US (by simp [QeX];omega)]
    have:=m.out;rw [e] at this;unfold Own;rw [QeX];exact this)
   go_wp2_with fail;go_ret;exact⟨_,rfl,s,r⟩
theorem Qp1 (a x:Option Us)(c d:Nat)(S:Sx)(w:Ur)(hc:S.l.length<=c)(hcm:c<=9223372036854775807)(hm:S.Sm)(h:QdB w a S.l)(h':QaD w x S.n S.R S.F S.T):
  Cl 23 #[Uo #[Uf a S.l.length c,Uf x S.n d]] w (Rt w (Ug .u64 (sxD S:Int))):=by
 obtain⟨W,q⟩:=zE (w.alloc (Uj #[Uf a S.l.length c,Uf x S.n d] 40));have m:Bl w W:=q▸zO _ _;have z:Bx2 W w.heap.size (Uf a S.l.length c) (Uf x S.n d):=q▸Bx2.made _ _ _ _;obtain⟨k0,O⟩:=z.q2;have t:=hid (QeD a x c d S W hc hcm hm (h.bw m) (h'.bw m));have A:=hid m;clear m z h h';go_enter func23,ntmps23;go_wp2_with fail;try rw [q]
 clear q;refine t.mono ?_;rintro e w1 ⟨v,j,k,rfl,r,p,o⟩;have E:=hid (Qaa A o);obtain⟨Q,U,rfl,s⟩:=p.any;have b:By j:=by have:=Qix S;rw [r] at this;exact this
 have Y:j.length<=4000:=by have:=Qh3 S;rw [r] at this;exact this
 have g:Hid (dig (fun i=>j.getD i 0) j.length=(sxD S:Int)):=hid (by rw [<- QmU,r]);have u:=hid (QiQ Q j.length U (fun i=>j.getD i 0) w1 oM b.byt s);rw [g.out] at u;clear o p r t k0 O s b g;go_wp2_with fail;refine u.mono ?_;rintro e w2 ⟨rfl,rfl⟩;obtain⟨V,y⟩:=zE (sxD S);have M:=hid y;rw [y];clear y u;go_wp2_with fail;go_ret;exact⟨by rw [M.out];rfl,E⟩
def Qb8 (f:Nat ->Int)(p:Nat):Nat ->Nat
 | 0=>0
 | k+1=>Qb8 f p k+(f (p+k)%128).toNat*128^k
def Cnt (f:Nat ->Int)(n p m:Nat):Prop:=m<=9/\ (∀k,k<m ->p+k<n/\ 128<=f (p+k))/\ (p+m<n ->m<9 ->f (p+m)<128)
theorem Qmv (f:Nat ->Int)(n p:Nat):∃m,Cnt f n p m:=by
 have u:∀d m,m+d=9 ->(∀k,k<m ->p+k<n/\ 128<=f (p+k)) ->∃m',Cnt f n p m':=by
  intro d;induction d with
  | zero=>intro m r h;exact⟨m,oM,h,fun _ h9=>oM⟩
  | succ d ih=>
   intro m r h;by_cases q:p+m<n/\ 128<=f (p+m)
   ·exact ih (m+1) oM (fun k hk=>by
     by_cases j:k=m
     ·subst j;exact q
     ·exact h k oM)
   ·exact⟨m,oM,h,fun j _=>oM⟩
 exact u 9 0 rfl (fun k hk=>oM)
def guC (f:Nat ->Int)(n p m:Nat):Nat:=if n<=p+m then 1 else if m=9/\ 1<f (p+m) then 2 else if 0<m/\ f (p+m)=0 then 3 else 0
def guV (f:Nat ->Int)(n p m:Nat):Nat:=if guC f n p m=0 then Qb8 f p (m+1) else 0
def guA (f:Nat ->Int)(n p m:Nat):Nat:=if guC f n p m=0 then p+m+1 else p
theorem Qd2 {f:Nat ->Int}(hf:Byt f)(p:Nat):∀k,Qb8 f p k<128^k
 | 0=>by simp [Qb8]
 | k+1=>by
  have m:=Qd2 hf p k;have j:(f (p+k)%128).toNat<=127:=oH (hf (p+k));have q:(f (p+k)%128).toNat*128^k<=127*128^k:=Yc _ j;show Qb8 f p k+_<_;rw [Va];omega
theorem QqC(h:k<=9):128^k<=9223372036854775808:=by
 have:=Yd (n:=128) oM h;simpa using this
theorem QfS(hf:Byt f)(p m:Nat)(hm:m<=9)(h9:m=9 ->f (p+m)<=1):∀k,k<=m+1 ->Qb8 f p k<18446744073709551616:=by
 intro k z;by_cases h:k<=9
 ·have:=Qd2 hf p k;have:=QqC h;omega
 ·obtain rfl:k=10:=oM;obtain rfl:m=9:=oM;have q:=Qd2 hf p 9;have r:=h9 rfl;have u:=hf (p+9);have j:(f (p+9)%128).toNat<=1:=oM;have v:=QqC (k:=9) oM;show Qb8 f p 9+(f (p+9)%128).toNat*128^9<_;have y:(f (p+9)%128).toNat*128^9<=1*128^9:=Yc _ j;omega
theorem Qhl (k:Nat)(w:Ur)(hk:k<=9):
  Cl 127 #[Ud (k:Int)] w fun e w'=>e=Ui (Ug .u64 ((128^k:Nat):Int))/\ w'=w:=by
 go_enter func127,ntmps127;go_wp2_with fail;go_loop [3,4] (fun v i=>∃(j x:Nat),j<=k/\ Hid (x=128^j)/\ i=Ud (j:Int)/\ v=Ug .u64 (x:Int)) (fun _ i=>k - (intOf i).toNat);case atStart=>exact⟨0,1,Uv _,hid oP,rfl,rfl⟩
 case round=>
  obtain⟨j,x,r,m,rfl,rfl⟩:=hrel;by_cases q:j<k
  ·have u:x<=72057594037927936:=by
    have:=Yd (n:=128) oM (show j<=8 by omega);have e:=m.out;simp at this;omega
   go_wp2_with fail;go_round;case rel=>exact⟨j+1,x*128,q,hid (by have:=m.out;rw [Va,this]),oN,oN⟩
   case measure=>exact oE
  ·obtain rfl:j=k:=oM;go_wp2_with fail;go_ret;exact⟨QbS (by rw [m.out];simp),rfl⟩
theorem QmL {a b c a' b' c':Int}(h1:a=a')(h2:b=b')(h3:c=c'):Ending.returned (Ul #[Ug .u64 a,Ud b,Ud c])=Ui (Ul #[Ug .u64 a',Ud b',Ud c']):=by rw [h1,h2,h3]
theorem Qk9 (a:Option Us)(n c:Nat)(x:Int)(w:Ur)(hn:n<=1048576)(hx:x<0 \/(n:Int)<x):
  Cl 99 #[Uf a n c,Ud x] w (Rt w (Ul #[Ug .u64 0,Ud x,Ud 1])):=by
 by_cases j:x<0
 ·go_enter func99,ntmps99;go_wp2_with fail;go_ret3;exact⟨rfl,zI⟩
 ·have k:(n:Int)<x:=oM;go_enter func99,ntmps99;go_wp2_with fail;go_ret3;exact⟨rfl,zI⟩
theorem QpO (a:Option Us)(n c p m:Nat)(f:Nat ->Int)(w:Ur)(hn:n<=1048576)(hf:Byt f)(h:Seg w a n f)(hp:p<=n)(hm:Cnt f n p m):
  Cl 99 #[Uf a n c,Ud (p:Int)] w (Rt w (Ul #[Ug .u64 (guV f n p m:Int),Ud (guA f n p m:Int),Ud (guC f n p m:Int)])):=by
 by_cases Hv:p=n
 ·subst Hv;have Hu:m=0:=by
   rcases Vb m with R|R
   ·exact R
   ·have:=(hm.2.1 0 R).1;omega
  subst Hu;have g:Hid (guC f p p 0=1):=by show _=_;unfold guC;rw [if_pos oM]
  have o:Hid (guV f p p 0=0/\ guA f p p 0=p):=by show _/\ _;unfold guV guA;rw [g.out];simp
  clear h hf hm;go_enter func99,ntmps99;go_wp2_with fail;refine wp_loop_rounds 1 ?_;rw [rounds_succ];go_wp2_with fail;go_ret3;exact⟨QmL (by rw [o.1];rfl) (by rw [o.2]) (by rw [g.out];rfl),zI⟩
 rcases h with h|⟨b,off,rfl,T,hc⟩
 ·omega
 have Hl:=hid hm;have H0:=hm.1;clear hm;go_enter func99,ntmps99;go_wp2_with fail;go_loop [7] (fun i=>∃k:Nat,k<=m/\ i=Ud (k:Int)) (fun i=>m - (intOf i).toNat);case atStart=>exact⟨0,Uv _,rfl⟩
 case round=>
  obtain⟨k,hk,rfl⟩:=hrel;by_cases Hm:k<m
  ·have Hj:p+k<n:=(Hl.2.1 k Hm).1;have Ht:w.cell? (Ua b (off+(p+k)))=Uq (Ug .u8 (f (p+k))):=hc (p+k) Hj;have Hy:128<=f (p+k):=(Hl.2.1 k Hm).2;have Hz:k<9:=oM;go_wp2_with fail;go_round;case rel=>exact⟨k+1,Hm,oN⟩
   case measure=>exact oE
  ·obtain rfl:k=m:=oM;by_cases Hj:p+k<n
   ·obtain⟨z,hz⟩:∃z:Nat,f (p+k)=(z:Int):=⟨(f (p+k)).toNat,oH ((hf (p+k)).1)⟩;have H2:z<256:=oH ((hf (p+k)).2);have Ht:w.cell? (Ua b (off+(p+k)))=Uq (Ug .u8 (z:Int)):=(by rw [hc (p+k) Hj,hz]);have F:k<9 ->z<128:=fun I=>oH (Hl.2.2 Hj I);have P:=hid hz;have Hk:=hid hc;clear hz hc;have D:9<=k ->1<z ->Hid (guC f n p k=2):=fun I h1=>by show _=_;unfold guC;rw [if_neg oM,if_pos ⟨oM,by rw [P.out];omega⟩]
    have H:(9<=k ->z<=1) ->0<k ->z=0 ->Hid (guC f n p k=3):=fun I h1 R=>by show _=_;unfold guC;rw [if_neg oM,if_neg (by rw [P.out];omega),if_pos ⟨h1,by rw [P.out];omega⟩]
    have U:(9<=k ->z<=1) ->(0<k ->z≠0) ->Hid (guC f n p k=0):=fun I h1=>by show _=_;unfold guC;rw [if_neg oM,if_neg (by rw [P.out];omega),if_neg (by rw [P.out];omega)]
    have Z:guC f n p k≠0 ->Hid (guV f n p k=0/\ guA f n p k=p):=fun hne=>by show _/\ _;unfold guV guA;rw [if_neg hne,if_neg hne];exact⟨rfl,rfl⟩
    have Y:guC f n p k=0 ->Hid (guV f n p k=Qb8 f p (k+1)/\ guA f n p k=p+k+1):=fun hne=>by show _/\ _;unfold guV guA;rw [if_pos hne,if_pos hne];exact⟨rfl,rfl⟩
    have V:(9<=k ->z<=1) ->Hid (∀j,j<=k+1 ->Qb8 f p j<18446744073709551616):=fun I=>QfS hf p k oM (fun h=>by rw [P.out];have:=I oM;omega);by_cases I:k<9
    ·have H1:=F I;by_cases R:0<k
     ·by_cases G:z=0
      ·have Hd:z<=0:=oM;have g:=H oM R G;have o:=Z (by rw [g.out];omega);clear G D H U Z Y V F;go_wp2_with fail;go_ret3;exact⟨QmL (by rw [o.1];rfl) (by rw [o.2]) (by rw [g.out];rfl),zI⟩
      ·have Hd:0<z:=oM;have g:=U oM (fun _=>G);have o:=Y g;have W:=V oM;clear G D H U Z Y V F;go_wp2_with fail;go_loopw [9,10] (fun v i wr=>∃(j x:Nat),j<=k+1/\ Hid (x=Qb8 f p j)/\ i=Ud (j:Int)/\ v=Ug .u64 (x:Int)/\ Hid (Bl w wr)) (fun _ i _=>k+1 - (intOf i).toNat);case atStart=>exact⟨0,0,Uv _,hid rfl,rfl,rfl,hid zI⟩
       case round=>
        obtain⟨j,x,hj,C,rfl,rfl,s⟩:=hrel;by_cases Ho:j<=k
        ·have Hg:p+j<n:=oM;obtain⟨y,Q⟩:∃y:Nat,f (p+j)=(y:Int):=⟨(f (p+j)).toNat,oH ((hf (p+j)).1)⟩;have Hr:y<256:=oH ((hf (p+j)).2);have L:wr.cell? (Ua b (off+(p+j)))=Uq (Ug .u8 (y:Int)):=(by rw [s.cell (p:=(Ua b _)) T,Hk.out (p+j) Hg,Q]);have Hn:=Ut T s.size;obtain⟨t,M⟩:∃t:Nat,t=128^j:=⟨_,rfl⟩;have A:Qb8 f p (j+1)=x+y%128*t:=by
          show Qb8 f p j+_=_;rw [C.out,M,Q];congr 2
         have X:=W (j+1) oM;rw [A] at X;have Hi:y%128*t<18446744073709551616:=oM;have HT:=hid M;have Hf:j<=9:=oM;obtain⟨q,N⟩:∃q:Nat,q=p+j:=⟨_,rfl⟩;have Hq:IntKind.i64.wrap ((p:Int)+(j:Int))=(q:Int):=(by rw [Qa3 _ oM oM];omega);have Hp:(0:Int)<=(q:Int):=UZ _;have Hh:(q:Int)<(n:Int):=oM;rw [<- N] at L;obtain⟨r,E⟩:∃r:Nat,r=y%128*t:=⟨_,rfl⟩;obtain⟨v1,B⟩:∃v1:Nat,v1=x+r:=⟨_,rfl⟩;have Ha:IntKind.u64.wrap ((x:Int)+(r:Int))=(v1:Int):=(by rw [Yt];omega);obtain⟨u,O⟩:∃u:Nat,u=y%128:=⟨_,rfl⟩;have Hb:IntKind.u64.wrap ((y:Int).tmod 128)=(u:Int):=(by rw [Yv oM,Yt];omega);have Hc:IntKind.u64.wrap ((u:Int)*(t:Int))=(r:Int):=by
          have e:((u*t:Nat):Int)=(u:Int)*(t:Int):=(by push_cast;rfl);rw [O,<- E] at e;rw [Yt,O,<- e];omega
         rw [<- E,<- B] at A;have HS:=hid A;clear Q A M N E Hi X B O;go_wp2_with fail;refine zR (S:=fun w'=>Bl wr w'/\ w'.cell? (Ua b (off+q))=Uq (Ug .u8 (y:Int))) ⟨zI.drew,L⟩ (fun qh=> ?_);refine tZ 0 73 ?_;refine tZ 1 74 ?_;refine tZ 2 75 ?_;refine tZ 3 76 ?_;refine tZ 4 77 ?_;refine tZ 5 78 ?_;refine tZ 6 79 ?_;refine tZ 7 80 ?_;refine tZ 8 81 ?_;refine tZ 9 82 ?_;refine cZ 10 ?_;intro K J;go_simp;refine(Qhl j _ Hf).mono ?_;rintro e w2 ⟨rfl,rfl⟩;rw [<- HT.out];refine J.out _ _ ⟨qh.1,qh.2⟩ (fun qh=> ?_);clear J K;try simp only [zP]
         refine tZ 11 84 ?_;refine tZ 12 85 ?_;refine tZ 13 9 ?_;refine zD ?_;have He:=hid qh.1;clear qh;go_wp2_with fail;go_roundw;case rel=>exact⟨j+1,v1,oM,hid (HS.symm),oN,by first|rfl|(simp only [Hb,Hc,Ha]),hid (s.trans (He.mono s.size))⟩
         case measure=>exact oE
        ·obtain rfl:j=k+1:=oM;go_wp2_with fail;go_ret3;exact⟨QmL (by rw [o.1,C.out]) (by rw [o.2];simp<;>omega) (by rw [g.out];rfl),s⟩
     ·have Hx:k<=0:=oM;have g:=U oM oM;have o:=Y g;have W:=V oM;clear D H U Z Y V F;go_wp2_with fail;go_loopw [9,10] (fun v i wr=>∃(j x:Nat),j<=k+1/\ Hid (x=Qb8 f p j)/\ i=Ud (j:Int)/\ v=Ug .u64 (x:Int)/\ Hid (Bl w wr)) (fun _ i _=>k+1 - (intOf i).toNat);case atStart=>exact⟨0,0,Uv _,hid rfl,rfl,rfl,hid zI⟩
      case round=>
       obtain⟨j,x,hj,C,rfl,rfl,s⟩:=hrel;by_cases Ho:j<=k
       ·have Hg:p+j<n:=oM;obtain⟨y,Q⟩:∃y:Nat,f (p+j)=(y:Int):=⟨(f (p+j)).toNat,oH ((hf (p+j)).1)⟩;have Hr:y<256:=oH ((hf (p+j)).2);have L:wr.cell? (Ua b (off+(p+j)))=Uq (Ug .u8 (y:Int)):=(by rw [s.cell (p:=(Ua b _)) T,Hk.out (p+j) Hg,Q]);have Hn:=Ut T s.size;obtain⟨t,M⟩:∃t:Nat,t=128^j:=⟨_,rfl⟩;have A:Qb8 f p (j+1)=x+y%128*t:=by
         show Qb8 f p j+_=_;rw [C.out,M,Q];congr 2
        have X:=W (j+1) oM;rw [A] at X;have Hi:y%128*t<18446744073709551616:=oM;have HT:=hid M;have Hf:j<=9:=oM;obtain⟨q,N⟩:∃q:Nat,q=p+j:=⟨_,rfl⟩;have Hq:IntKind.i64.wrap ((p:Int)+(j:Int))=(q:Int):=(by rw [Qa3 _ oM oM];omega);have Hp:(0:Int)<=(q:Int):=UZ _;have Hh:(q:Int)<(n:Int):=oM;rw [<- N] at L;obtain⟨r,E⟩:∃r:Nat,r=y%128*t:=⟨_,rfl⟩;obtain⟨v1,B⟩:∃v1:Nat,v1=x+r:=⟨_,rfl⟩;have Ha:IntKind.u64.wrap ((x:Int)+(r:Int))=(v1:Int):=(by rw [Yt];omega);obtain⟨u,O⟩:∃u:Nat,u=y%128:=⟨_,rfl⟩;have Hb:IntKind.u64.wrap ((y:Int).tmod 128)=(u:Int):=(by rw [Yv oM,Yt];omega);have Hc:IntKind.u64.wrap ((u:Int)*(t:Int))=(r:Int):=by
         have e:((u*t:Nat):Int)=(u:Int)*(t:Int):=(by push_cast;rfl);rw [O,<- E] at e;rw [Yt,O,<- e];omega
        rw [<- E,<- B] at A;have HS:=hid A;clear Q A M N E Hi X B O;go_wp2_with fail;refine zR (S:=fun w'=>Bl wr w'/\ w'.cell? (Ua b (off+q))=Uq (Ug .u8 (y:Int))) ⟨zI.drew,L⟩ (fun qh=> ?_);refine tZ 0 73 ?_;refine tZ 1 74 ?_;refine tZ 2 75 ?_;refine tZ 3 76 ?_;refine tZ 4 77 ?_;refine tZ 5 78 ?_;refine tZ 6 79 ?_;refine tZ 7 80 ?_;refine tZ 8 81 ?_;refine tZ 9 82 ?_;refine cZ 10 ?_;intro K J;go_simp;refine(Qhl j _ Hf).mono ?_;rintro e w2 ⟨rfl,rfl⟩;rw [<- HT.out];refine J.out _ _ ⟨qh.1,qh.2⟩ (fun qh=> ?_);clear J K;try simp only [zP]
        refine tZ 11 84 ?_;refine tZ 12 85 ?_;refine tZ 13 9 ?_;refine zD ?_;have He:=hid qh.1;clear qh;go_wp2_with fail;go_roundw;case rel=>exact⟨j+1,v1,oM,hid (HS.symm),oN,by first|rfl|(simp only [Hb,Hc,Ha]),hid (s.trans (He.mono s.size))⟩
        case measure=>exact oE
       ·obtain rfl:j=k+1:=oM;go_wp2_with fail;go_ret3;exact⟨QmL (by rw [o.1,C.out]) (by rw [o.2];simp<;>omega) (by rw [g.out];rfl),s⟩
    ·have Hs:9<=k:=oM;by_cases Hw:1<z
     ·skip;have g:=D Hs Hw;have o:=Z (by rw [g.out];omega);clear D H U Z Y V F;go_wp2_with fail;go_ret3;exact⟨QmL (by rw [o.1];rfl) (by rw [o.2]) (by rw [g.out];rfl),zI⟩
     ·by_cases G:z=0
      ·have Hd:z<=0:=oM;have g:=H oM oM G;have o:=Z (by rw [g.out];omega);clear G D H U Z Y V F;go_wp2_with fail;go_ret3;exact⟨QmL (by rw [o.1];rfl) (by rw [o.2]) (by rw [g.out];rfl),zI⟩
      ·have Hd:0<z:=oM;have g:=U oM (fun _=>G);have o:=Y g;have W:=V oM;clear G D H U Z Y V F;go_wp2_with fail;go_loopw [9,10] (fun v i wr=>∃(j x:Nat),j<=k+1/\ Hid (x=Qb8 f p j)/\ i=Ud (j:Int)/\ v=Ug .u64 (x:Int)/\ Hid (Bl w wr)) (fun _ i _=>k+1 - (intOf i).toNat);case atStart=>exact⟨0,0,Uv _,hid rfl,rfl,rfl,hid zI⟩
       case round=>
        obtain⟨j,x,hj,C,rfl,rfl,s⟩:=hrel;by_cases Ho:j<=k
        ·have Hg:p+j<n:=oM;obtain⟨y,Q⟩:∃y:Nat,f (p+j)=(y:Int):=⟨(f (p+j)).toNat,oH ((hf (p+j)).1)⟩;have Hr:y<256:=oH ((hf (p+j)).2);have L:wr.cell? (Ua b (off+(p+j)))=Uq (Ug .u8 (y:Int)):=(by rw [s.cell (p:=(Ua b _)) T,Hk.out (p+j) Hg,Q]);have Hn:=Ut T s.size;obtain⟨t,M⟩:∃t:Nat,t=128^j:=⟨_,rfl⟩;have A:Qb8 f p (j+1)=x+y%128*t:=by
          show Qb8 f p j+_=_;rw [C.out,M,Q];congr 2
         have X:=W (j+1) oM;rw [A] at X;have Hi:y%128*t<18446744073709551616:=oM;have HT:=hid M;have Hf:j<=9:=oM;obtain⟨q,N⟩:∃q:Nat,q=p+j:=⟨_,rfl⟩;have Hq:IntKind.i64.wrap ((p:Int)+(j:Int))=(q:Int):=(by rw [Qa3 _ oM oM];omega);have Hp:(0:Int)<=(q:Int):=UZ _;have Hh:(q:Int)<(n:Int):=oM;rw [<- N] at L;obtain⟨r,E⟩:∃r:Nat,r=y%128*t:=⟨_,rfl⟩;obtain⟨v1,B⟩:∃v1:Nat,v1=x+r:=⟨_,rfl⟩;have Ha:IntKind.u64.wrap ((x:Int)+(r:Int))=(v1:Int):=(by rw [Yt];omega);obtain⟨u,O⟩:∃u:Nat,u=y%128:=⟨_,rfl⟩;have Hb:IntKind.u64.wrap ((y:Int).tmod 128)=(u:Int):=(by rw [Yv oM,Yt];omega);have Hc:IntKind.u64.wrap ((u:Int)*(t:Int))=(r:Int):=by
          have e:((u*t:Nat):Int)=(u:Int)*(t:Int):=(by push_cast;rfl);rw [O,<- E] at e;rw [Yt,O,<- e];omega
         rw [<- E,<- B] at A;have HS:=hid A;clear Q A M N E Hi X B O;go_wp2_with fail;refine zR (S:=fun w'=>Bl wr w'/\ w'.cell? (Ua b (off+q))=Uq (Ug .u8 (y:Int))) ⟨zI.drew,L⟩ (fun qh=> ?_);refine tZ 0 73 ?_;refine tZ 1 74 ?_;refine tZ 2 75 ?_;refine tZ 3 76 ?_;refine tZ 4 77 ?_;refine tZ 5 78 ?_;refine tZ 6 79 ?_;refine tZ 7 80 ?_;refine tZ 8 81 ?_;refine tZ 9 82 ?_;refine cZ 10 ?_;intro K J;go_simp;refine(Qhl j _ Hf).mono ?_;rintro e w2 ⟨rfl,rfl⟩;rw [<- HT.out];refine J.out _ _ ⟨qh.1,qh.2⟩ (fun qh=> ?_);clear J K;try simp only [zP]
         refine tZ 11 84 ?_;refine tZ 12 85 ?_;refine tZ 13 9 ?_;refine zD ?_;have He:=hid qh.1;clear qh;go_wp2_with fail;go_roundw;case rel=>exact⟨j+1,v1,oM,hid (HS.symm),oN,by first|rfl|(simp only [Hb,Hc,Ha]),hid (s.trans (He.mono s.size))⟩
         case measure=>exact oE
        ·obtain rfl:j=k+1:=oM;go_wp2_with fail;go_ret3;exact⟨QmL (by rw [o.1,C.out]) (by rw [o.2];simp<;>omega) (by rw [g.out];rfl),s⟩
   ·have g:Hid (guC f n p k=1):=(by show _=_;unfold guC;rw [if_pos oM]);have o:Hid (guV f n p k=0/\ guA f n p k=p):=(by show _/\ _;unfold guV guA;rw [g.out];simp);go_wp2_with fail;go_ret3;exact⟨QmL (by rw [o.1];rfl) (by rw [o.2]) (by rw [g.out];rfl),zI⟩
open Go.Extern.Stop Go.Stop Go.Extern
variable {EX : Nat -> Option Value}
structure QcL (w:Ur)(B:Nat)(aT aS aL aE:Us):Prop where
 gT:w.cell? (Ub 15)=Uq (.iface 363 (Uk (Uq aT)))
 gS:w.cell? (Ub 16)=Uq (.iface 363 (Uk (Uq aS)))
 gE:w.cell? (Ub 14)=Uq (.iface 363 (Uk (Uq aE)))
 gY:w.cell? (Ub 2)=Uq (.iface 183 (Uo #[Uk (Uq (Ua 19 73))]))
 nTS:aT≠aS
 nTE:aT≠aE
 nSE:aS≠aE
 bT:∃c t,w.heap[aT.block]? =Uq (.cells c t (0,0))
 bS:∃c t,w.heap[aS.block]? =Uq (.cells c t (0,0))
 bE:∃c t,w.heap[aE.block]? =Uq (.cells c t (0,0))
 gM:∃v,w.cell? (Ub 9)=Uq (.iface 363 v)
 gO:∃v,w.cell? (Ub 10)=Uq (.iface 363 v)
 gN:∃v,w.cell? (Ub 13)=Uq (.iface 363 v)
 x0:∃v,w.cell? (Ub 4)=Uq (.iface 363 v)
 x1:∃v,w.cell? (Ub 5)=Uq (.iface 363 v)
 x2:∃v,w.cell? (Ub 11)=Uq (.iface 363 v)
 x3:∃v,w.cell? (Ub 1)=Uq (.iface 363 v)
 x4:∃v,w.cell? (Ub 8)=Uq (.iface 363 v)
 x5:∃v,w.cell? (Ub 7)=Uq (.iface 363 v)
 x6:∃v,w.cell? (Ub 12)=Uq (.iface 363 v)
 x7:∃v,w.cell? (Ub 17)=Uq (.iface 363 v)
 x8:∃v,w.cell? (Ub 18)=Uq (.iface 363 v)
 lG:19<=B
 lT:aT.block<B
 lS:aS.block<B
 lE:aE.block<B
theorem QcL.bw(h:QcL w B aT aS aL aE)(hb:Below B w w'):QcL w' B aT aS aL aE:=by
 have k:=h.lG;exact{
     gT:=(hb.cell (p:=(Ub 15)) (Ut oD k)).trans h.gT,
     gS:=(hb.cell (p:=(Ub 16)) (Ut oD k)).trans h.gS,
     gE:=(hb.cell (p:=(Ub 14)) (Ut oD k)).trans h.gE,
     gY:=(hb.cell (p:=(Ub 2)) (Ut oD k)).trans h.gY,
     nTS:=h.nTS,nTE:=h.nTE,nSE:=h.nSE,
     bT:=by rw [hb.block _ h.lT];exact h.bT,
     bS:=by rw [hb.block _ h.lS];exact h.bS,
     bE:=by rw [hb.block _ h.lE];exact h.bE,
     gM:=by obtain⟨v,j⟩:=h.gM;exact⟨v,(hb.cell (p:=(Ub 9)) (Ut oD k)).trans j⟩,
     gO:=by obtain⟨v,j⟩:=h.gO;exact⟨v,(hb.cell (p:=(Ub 10)) (Ut oD k)).trans j⟩,
     gN:=by obtain⟨v,j⟩:=h.gN;exact⟨v,(hb.cell (p:=(Ub 13)) (Ut oD k)).trans j⟩,
     x0:=by obtain⟨v,j⟩:=h.x0;exact⟨v,(hb.cell (p:=(Ub 4)) (Ut oD k)).trans j⟩,
     x1:=by obtain⟨v,j⟩:=h.x1;exact⟨v,(hb.cell (p:=(Ub 5)) (Ut oD k)).trans j⟩,
     x2:=by obtain⟨v,j⟩:=h.x2;exact⟨v,(hb.cell (p:=(Ub 11)) (Ut oD k)).trans j⟩,
     x3:=by obtain⟨v,j⟩:=h.x3;exact⟨v,(hb.cell (p:=(Ub 1)) (Ut oD k)).trans j⟩,
     x4:=by obtain⟨v,j⟩:=h.x4;exact⟨v,(hb.cell (p:=(Ub 8)) (Ut oD k)).trans j⟩,
     x5:=by obtain⟨v,j⟩:=h.x5;exact⟨v,(hb.cell (p:=(Ub 7)) (Ut oD k)).trans j⟩,
     x6:=by obtain⟨v,j⟩:=h.x6;exact⟨v,(hb.cell (p:=(Ub 12)) (Ut oD k)).trans j⟩,
     x7:=by obtain⟨v,j⟩:=h.x7;exact⟨v,(hb.cell (p:=(Ub 17)) (Ut oD k)).trans j⟩,
     x8:=by obtain⟨v,j⟩:=h.x8;exact⟨v,(hb.cell (p:=(Ub 18)) (Ut oD k)).trans j⟩,
     lG:=h.lG,lT:=h.lT,lS:=h.lS,lE:=h.lE}
def Cur (EX:Nat ->Option Value)(w:Ur)(cb:Nat)(a:Option Us)(n c:Nat)(x:Int):Prop:=w.cell? (Ub cb)=Uq (Uf a n c)/\ w.cell? (Ua cb 1)=Uq (Ud x)/\ w.frozen? (Ua cb 1)=false/\∀i,2<=i ->w.cell? (Ua cb i)=EX i/\ w.frozen? (Ua cb i)=false
theorem Cur.lt(h:Cur EX w cb a n c x):cb<w.heap.size:=by
 rcases Ya cb w.heap.size with j|j
 ·exact j
 ·have:=h.1;simp [UE,Array.getElem?_eq_none j] at this
theorem Cur.bw(h:Cur EX w cb a n c x)(hb:Below B w w')(hB:cb<B):Cur EX w' cb a n c x:=
 ⟨(hb.cell (p:=(Ub cb)) hB).trans h.1,(hb.cell (p:=(Ua cb 1)) hB).trans h.2.1,(hb.frozen (p:=(Ua cb 1)) hB).trans h.2.2.1,fun i hi=>⟨(hb.cell (p:=(Ua cb i)) hB).trans (h.2.2.2 i hi).1,(hb.frozen (p:=(Ua cb i)) hB).trans (h.2.2.2 i hi).2⟩⟩
theorem Cur.set(h:Cur EX w cb a n c x)(y:Int):Cur EX (w.setCell (Ua cb 1) (Ud y)) cb a n c y:=by
 obtain⟨j,k,m,q⟩:=h;refine⟨?_,?_,?_,fun i hi=> ?_⟩
 ·simp [UI,j]
 ·exact UH _ _ _ k
 ·rw [UG];exact m
 ·rw [UI _ _ _ _ (by intro e;injection e with _ e;omega),UG];exact q i hi
theorem Cur.at'(h:Cur EX w cb a n c x)(hb:w'.heap[cb]? =w.heap[cb]?):Cur EX w' cb a n c x:=
 ⟨(UB (a:=(Ub cb)) hb).trans h.1,(UB (a:=(Ua cb 1)) hb).trans h.2.1,(Ys (a:=(Ua cb 1)) hb).trans h.2.2.1,fun i hi=>⟨(UB (a:=(Ua cb i)) hb).trans (h.2.2.2 i hi).1,(Ys (a:=(Ua cb i)) hb).trans (h.2.2.2 i hi).2⟩⟩
theorem Qeg(h:w.grownBy w1 Up)(v:Value):w.grownBy (w1.setCell (Ua cb i) v) (Uq cb):=by
 refine⟨h.os,h.tape,h.output,?_,fun k hk hne=> ?_⟩
 ·have:=h.size;simpa [UC] using this
 ·exact(zH _ _ _ _ (fun e=>hne (by rw [e]))).trans (h.block k hk oP)
theorem Qa2 (w:Ur)(n:Nat)(row:Option Nat):w.grownBy (w.drewN n) row:=⟨rfl,rfl,rfl,Uu _,fun _ _ _=>rfl⟩
theorem QaX{a:Ur}(h:Below B a w)(n:Nat):Below B a (w.drewN n):=⟨h.os,h.tape,h.output,h.size,h.block⟩
theorem QfE (cb:Nat)(a:Option Us)(n c:Nat)(x:Int)(aE:Us)(w:Ur)(hn:n<=1048576)(hcur:Cur EX w cb a n c x)(hx:x<0 \/(n:Int)<=x)(hg:w.cell? (Ub 14)=Uq (.iface 363 (Uk (Uq aE)))):
  Cl 190 #[Uk (Uc cb)] w (Rt w (Ul #[Ug .u8 0,.iface 363 (Uk (Uq aE))])):=by
 obtain⟨k0,q,r,_⟩:=hcur;by_cases j:x<0
 ·go_enter func190,ntmps190;go_wp2_with fail;go_quiet (fail);go_wp2_with fail;go_quiet (fail);go_wp2_with fail;go_ret2;exact⟨rfl,by simp;exact QaX zI _⟩
 ·have k:(n:Int)<=x:=oM;have m:decide (x<0)=false:=oW j;go_enter func190,ntmps190;go_wp2_with fail;go_quiet (fail);go_wp2_with fail;go_quiet (fail);go_wp2_with fail;go_ret2;exact⟨rfl,by simp;exact QaX zI _⟩
theorem Qki (cb b off n c p:Nat)(z:Int)(w:Ur)(hn:n<=1048576)(hcur:Cur EX w cb (Uq (Ua b off)) n c (p:Int))(hp:p<n)(hc:w.cell? (Ua b (off+p))=Uq (Ug .u8 z)):
  Cl 190 #[Uk (Uc cb)] w fun e w'=>e=Ui (Ul #[Ug .u8 z,.nilIface])/\ Cur EX w' cb (Uq (Ua b off)) n c ((p+1:Nat):Int)/\ w.grownBy w' (Uq cb):=by
 have j:=hid hcur;obtain⟨k0,u,v,_⟩:=hcur;have m:decide ((p:Int)<0)=false:=oP;have k:decide ((n:Int)<=(p:Int))=false:=oS;have q:(0:Int)<=(p:Int):=UZ _;have r:(p:Int)<(n:Int):=oM;go_enter func190,ntmps190;go_wp2_with fail;go_quiet (fail);go_wp2_with fail;go_quiet (fail);go_wp2_with fail;go_ret2;refine⟨rfl,?_,?_⟩
 ·first|exact j.set _|(simp;exact j.set _)
 ·first|exact Qeg (Qa2 _ _ _) _|(simp;exact Qeg (Qa2 _ _ _) _)
theorem Qqa (z j:Nat)(w:Ur)(hz:z<256)(h9:9<=j ->z<=1)(h0:0<j ->0<z)(hj:j<=9):
  Cl 191 #[Ug .u8 (z:Int),Ud (j:Int)] w fun e w'=>e=Ui .nilIface/\ w'=w:=by
 by_cases m:9<=j
 ·have r:=h9 m;have q:=h0 oM;clear h9 h0;go_enter func191,ntmps191;go_wp2_with fail;go_ret;exact⟨rfl,rfl⟩
 ·by_cases k:0<j
  ·have q:=h0 k;clear h9 h0;go_enter func191,ntmps191;go_wp2_with fail;go_ret;exact⟨rfl,rfl⟩
  ·clear h9 h0;go_enter func191,ntmps191;go_wp2_with fail;go_ret;exact⟨rfl,rfl⟩
theorem Qmd (z j:Nat)(aT:Us)(w:Ur)(hz:z<256)(hz1:1<z)(hj9:9<=j)(hj:j<=9)(hg:w.cell? (Ub 15)=Uq (.iface 363 (Uk (Uq aT)))):
  Cl 191 #[Ug .u8 (z:Int),Ud (j:Int)] w fun e w'=>e=Ui (.iface 363 (Uk (Uq aT)))/\ w'=w:=by
 go_enter func191,ntmps191;go_wp2_with fail;go_ret;exact⟨rfl,rfl⟩
theorem Qmc (z j:Nat)(aS:Us)(w:Ur)(hz:z<=0)(hj:0<j)(hj9:j<=9)(hg:w.cell? (Ub 16)=Uq (.iface 363 (Uk (Uq aS)))):
  Cl 191 #[Ug .u8 (z:Int),Ud (j:Int)] w fun e w'=>e=Ui (.iface 363 (Uk (Uq aS)))/\ w'=w:=by
 by_cases k:9<=j
 ·go_enter func191,ntmps191;go_wp2_with fail;go_ret;exact⟨rfl,rfl⟩
 ·go_enter func191,ntmps191;go_wp2_with fail;go_ret;exact⟨rfl,rfl⟩
variable {EX : Nat -> Option Value}
def Plc (w:Ur)(pb:Nat)(x:Int)(u:Value):Prop:=w.cell? (Ua pb 1)=Uq (Ud x)/\ w.cell? (Ua pb 2)=Uq u/\ pb<w.heap.size
theorem Qaf(h1:w.grownBy w1 (Uq cb))(h2:w1.grownBy w2 (Uq cb)):w.grownBy w2 (Uq cb):=
 h1.andThen h2 (fun j hj=> .inr hj)
theorem Qag(h1:w.grownBy w1 (Uq cb))(h2:Bl w1 w2):w.grownBy w2 (Uq cb):=
 Qaf h1 ⟨h2.os,h2.tape,h2.output,h2.size,fun k hk _=>h2.block k hk⟩
theorem Qbo (w:Ur)(row:Option Nat):w.grownBy w row:=⟨rfl,rfl,rfl,Uu _,fun _ _ _=>rfl⟩
theorem QqM (cb B:Nat)(a:Option Us)(n c:Nat)(x:Int)(aT aS aL aE:Us)(w:Ur)(hn:n<=1048576)(hcur:Cur EX w cb a n c x)(hx:x<0 \/(n:Int)<=x)(hE:QcL w B aT aS aL aE):
  Cl 166 #[Uk (Uc cb)] w fun e w'=>∃pb,e=Ui (Ul #[Ug .u64 0,.iface 214 (Uk (Uc pb))])/\ w.heap.size<=pb/\ Plc w' pb x (.iface 363 (Uk (Uq aE)))/\ Bl w w':=by
 have q:=hid hcur;have r:=hid hE;obtain⟨k0,u,v,_⟩:=hcur;clear hE;go_enter func166,ntmps166;go_wp2_with fail;refine wp_loop_rounds 1 ?_;rw [rounds_succ];go_wp2_with fail;refine(QfE cb a n c x aE _ hn q hx r.gE).mono ?_;rintro e w1 ⟨rfl,j⟩;have k:=j.size;have m:=hid j;clear j;go_wp2_with fail;go_ret2;refine⟨_,rfl,k,⟨oP,oP,oP⟩,m.alloc k _⟩
theorem Qnh (z:Nat)(h:z<256):bits BinOp.and Yu (z:Int) 127=((z%128:Nat):Int):=by
 have:=u8_and_nat z 127 oM oM;rw [show (127:Nat)=2^7 - 1 from rfl,Nat.and_two_pow_sub_one_eq_mod] at this;exact this
theorem QpB (x y j:Nat)(hx:x<128^j)(h:x+y*128^j<18446744073709551616):bits BinOp.or IntKind.u64 (x:Int) ((y*128^j:Nat):Int)=((x+y*128^j:Nat):Int):=by
 have e:=u64_or_nat x (y*128^j) oM oM;have m:x|||(y*128^j)=x+y*128^j:=by
  have k:128^j=2^(7*j):=by rw [Nat.pow_mul]
  rw [k] at hx ⊢;have:=Nat.two_pow_add_eq_or_of_lt (i:=7*j) (b:=x) hx y;rw [Nat.or_comm,Ye y];omega
 rw [m] at e;exact e
variable {EX : Nat -> Option Value}
def adr (aT aS aE:Us)(k:Nat):Us:=if k=1 then aE else if k=2 then aT else aS
theorem Qit (x z j:Nat)(hz:z<256)(hx:x<128^j)(h:x+z%128*128^j<18446744073709551616):
  bits BinOp.or IntKind.u64 (x:Int) (IntKind.u64.wrap (IntKind.u64.wrap (bits BinOp.and Yu (z:Int) 127)*2^(7*j)))=((x+z%128*128^j:Nat):Int):=by
 have k:((2:Int)^(7*j))=((128^j:Nat):Int):=by
  rw [Int.pow_mul];push_cast;rfl
 have m:IntKind.u64.wrap ((z%128:Nat):Int)=((z%128:Nat):Int):=by rw [Yt];omega
 have r:((z%128:Nat):Int)*((128^j:Nat):Int)=((z%128*128^j:Nat):Int):=by push_cast;rfl
 have u:IntKind.u64.wrap ((z%128*128^j:Nat):Int)=((z%128*128^j:Nat):Int):=by
  obtain⟨q,v⟩:∃q:Nat,q=z%128*128^j:=⟨_,rfl⟩;rw [<- v] at h ⊢;rw [Yt];omega
 rw [Qnh z hz,k,m,r,u];exact QpB x (z%128) j hx h
theorem Qdm{z:Nat}(hz:f (p+j)=(z:Int)):Qb8 f p (j+1)=Qb8 f p j+z%128*128^j:=by
 show Qb8 f p j+_=_;rw [hz];congr 2
theorem Qrn (cb B b off n c p m:Nat)(f:Nat ->Int)(aT aS aL aE:Us)(w:Ur)(hn:n<=1048576)(hf:Byt f)(hcur:Cur EX w cb (Uq (Ua b off)) n c (p:Int))(hp:p<n)(hm:Cnt f n p m)(hE:QcL w B aT aS aL aE)(hBc:B<=cb)(hbc:b≠cb)(hb:b<w.heap.size)
  (hc:∀i,i<n ->w.cell? (Ua b (off+i))=Uq (Ug .u8 (f i))):
  Cl 166 #[Uk (Uc cb)] w fun e w'=>w.grownBy w' (Uq cb)/\ ((guC f n p m=0/\ e=Ui (Ul #[Ug .u64 (guV f n p m:Int),.nilIface])/\ Cur EX w' cb (Uq (Ua b off)) n c (guA f n p m:Int)) \/
   (guC f n p m≠0/\∃pb,e=Ui (Ul #[Ug .u64 0,.iface 214 (Uk (Uc pb))])/\ w.heap.size<=pb/\ Plc w' pb (p:Int) (.iface 363 (Uk (Uq (adr aT aS aE (guC f n p m)))))/\∃x,Cur EX w' cb (Uq (Ua b off)) n c x)):=by
 have N:=hid hcur;have O:=hid hE;have M:=hid hm;have X:=hid hc;have L:=hm.1;have Hd:=hcur.lt;have U:B<=w.heap.size:=oM;obtain⟨k0,k1,k2,_⟩:=hcur;clear hE hm hc;go_enter func166,ntmps166;go_wp2_with fail;go_loopw [5,6] (fun v i wr=>∃(j x:Nat),j<=m/\ Hid (x=Qb8 f p j)/\ i=Ud (j:Int)/\ v=Ug .u64 (x:Int)/\ Hid (Cur EX wr cb (Uq (Ua b off)) n c ((p+j:Nat):Int))/\ Hid (w.grownBy wr (Uq cb))) (fun _ i _=>m - (intOf i).toNat);case atStart=>exact⟨0,0,Uv _,hid rfl,rfl,rfl,N,hid (Qbo _ _)⟩
 case round=>
  clear k0 k1 k2;obtain⟨j,x,hj,g,rfl,rfl,s,A⟩:=hrel;have F:=hid ((Below.refl B w).grown A U (fun k hk=>oI hk));have P:=hid (O.bw F);by_cases E:p+j<n
  ·obtain⟨z,G⟩:∃z:Nat,f (p+j)=(z:Int):=⟨(f (p+j)).toNat,oH ((hf (p+j)).1)⟩;have t:z<256:=oH ((hf (p+j)).2);have W:Hid (wr.cell? (Ua b (off+(p+j)))=Uq (Ug .u8 (z:Int))):=by
    show _=_;rw [UB (A.block b hb oS),X.out _ E,G]
   have q:=hid G;clear G;go_wp2_with fail;refine(Qki cb b off n c (p+j) (z:Int) _ hn s E W).mono ?_;rintro e w1 ⟨rfl,H,I⟩;have u:=hid H;have r:=hid (Qaf A I);clear H I;by_cases K:j<m
   ·have Ha:128<=z:=(by have:=(M.2.1 j K).2;rw [q.out] at this;omega);have He:j<=8:=oM;go_wp2_with fail;refine(Qqa z j _ t oM oM oM).mono ?_;rintro e w2 ⟨rfl,rfl⟩;have Z:=hid (Qit x z j t (by rw [g.out];exact Qd2 hf p j) (by
     have o:=Qd2 hf p (j+1);rw [Qdm q.out,<- g.out] at o;have h2:=QqC (k:=j+1) oM;omega))
    go_wp2_with fail;refine⟨⟨j+1,x+z%128*128^j,K,hid (by rw [Qdm q.out,g.out]),oN,by rw [Z.out],?_,r⟩,oE⟩;have e:p+j+1=p+(j+1):=oM;rw [<- e];exact u
   ·obtain rfl:j=m:=oM;by_cases S:9<=j/\ 1<z
    ·have y:Hid (guC f n p j=2):=(by show _=_;unfold guC;rw [if_neg oM,if_pos ⟨oM,by rw [q.out];omega⟩]);obtain⟨J,Hc⟩:=S;have Y:=hid (O.bw ((Below.refl B w).grown r U (fun k hk=>oI hk)));go_wp2_with fail;refine(Qmd z j aT _ t Hc J L Y.gT).mono ?_;rintro e w2 ⟨rfl,rfl⟩;go_wp2_with fail;go_ret2;refine⟨Qag r (zO _ _),.inr ⟨by rw [y.out];omega,_,rfl,r.size,⟨oP,by rw [y.out];simp [adr],oP⟩,_,u.bw (zO _ _) u.lt⟩⟩
    by_cases T:0<j/\ z<=0
    ·have y:Hid (guC f n p j=3):=(by show _=_;unfold guC;rw [if_neg oM,if_neg (by rw [q.out];omega),if_pos ⟨oM,by rw [q.out];omega⟩]);obtain⟨C,Hb⟩:=T;have Y:=hid (O.bw ((Below.refl B w).grown r U (fun k hk=>oI hk)));go_wp2_with fail;refine(Qmc z j aS _ Hb C L Y.gS).mono ?_;rintro e w2 ⟨rfl,rfl⟩;go_wp2_with fail;go_ret2;refine⟨Qag r (zO _ _),.inr ⟨by rw [y.out];omega,_,rfl,r.size,⟨oP,by rw [y.out];simp [adr],oP⟩,_,u.bw (zO _ _) u.lt⟩⟩
    have V:Hid (guC f n p j=0):=(by show _=_;unfold guC;rw [if_neg oM,if_neg (by rw [q.out];omega),if_neg (by rw [q.out];omega)]);have R:Hid (guV f n p j=x+z%128*128^j):=(by show _=_;unfold guV;rw [if_pos V.out,Qdm q.out,g.out]);have D:Hid (guA f n p j=p+j+1):=(by show _=_;unfold guA;rw [if_pos V.out]);have Ha:z<128:=by
     by_cases J:9<=j
     ·omega
     ·have:=M.2.2 E oM;rw [q.out] at this;omega
    have Z:=hid (Qit x z j t (by rw [g.out];exact Qd2 hf p j) (by
     have o:=QfS hf p j oM (fun h=>by rw [q.out];omega) (j+1) oM;rw [Qdm q.out,<- g.out] at o;exact o))
    go_wp2_with fail;refine(Qqa z j _ t oM oM oM).mono ?_;rintro e w2 ⟨rfl,rfl⟩;go_wp2_with fail;go_ret2;refine⟨r,.inl ⟨V,?_,by rw [D.out];exact u⟩⟩;rw [R.out,<- Z.out];rfl
  ·obtain rfl:j=m:=by
    rcases Ya j m with h|h
    ·exact absurd (M.2.1 j h).1 E
    ·omega
   have y:Hid (guC f n p j=1):=(by show _=_;unfold guC;rw [if_pos oM]);go_wp2_with fail;refine(QfE cb _ n c ((p+j:Nat):Int) aE _ hn s (.inr oM) P.gE).mono ?_;rintro e w1 ⟨rfl,Q⟩;have r:=hid (Qag A Q);have u:=hid (s.bw Q s.lt);clear Q;go_wp2_with fail;go_ret2;refine⟨Qag r (zO _ _),.inr ⟨by rw [y.out];omega,_,rfl,r.size,⟨oP,by rw [y.out];simp [adr],oP⟩,_,u.bw (zO _ _) u.lt⟩⟩
variable {EX : Nat -> Option Value}
theorem Qph (f:Nat ->Int)(n p m:Nat):guC f n p m=0 \/(guC f n p m=1 \/guC f n p m=2 \/guC f n p m=3):=by
 unfold guC;repeat' split
 all_goals simp
def gX (f:Nat ->Int)(n m:Nat)(x:Int):Nat×Int×Nat:=if 0<=x/\ x<n then(guV f n x.toNat m,(guA f n x.toNat m:Int),guC f n x.toNat m) else(0,x,1)
theorem QgV(hp:p<n):gX f n m (p:Int)=(guV f n p m,(guA f n p m:Int),guC f n p m):=by
 unfold gX;rw [if_pos ⟨oM,oM⟩];simp
theorem Qee(hx:x<0 \/(n:Int)<=x):gX f n m x=(0,x,1):=by
 unfold gX;rw [if_neg oM]
theorem QcV(hm:Cnt f n x.toNat m)(hf:Byt f)(hn:n<=1048576)(hx0: -9223372036854775808<=x)(hx1:x<=9223372036854775807):
  (gX f n m x).1<18446744073709551616/\ (gX f n m x).2.2<=3/\ ((gX f n m x).2.2=0 ->0<=(gX f n m x).2.1/\ (gX f n m x).2.1<=n)/\ ((gX f n m x).2.2≠0 ->(gX f n m x).2.1=x):=by
 by_cases v:0<=x/\ x<n
 ·obtain⟨p,rfl⟩:∃p:Nat,x=(p:Int):=⟨x.toNat,oM⟩;rw [QgV oM];have u:Cnt f n p m:=oW hm;refine⟨?_,?_,?_,?_⟩
  ·show guV f n p m<_;unfold guV;split
   ·rename_i j;refine QfS hf p m u.1 (fun h9=> ?_) (m+1) zL;unfold guC at j;by_cases k:n<=p+m
    ·rw [if_pos k] at j;omega
    ·rw [if_neg k] at j;by_cases r:m=9/\ 1<f (p+m)
     ·rw [if_pos r] at j;omega
     ·omega
   ·omega
  ·show guC f n p m<=3;rcases Qph f n p m with h|h|h|h<;>omega
  ·intro j;have q:guC f n p m=0:=j;have k:¬n<=p+m:=fun k=>by unfold guC at q;rw [if_pos k] at q;omega
   show 0<=(guA f n p m:Int)/\ (guA f n p m:Int)<=n;unfold guA;rw [if_pos q];omega
  ·intro j;show (guA f n p m:Int)=p;unfold guA;rw [if_neg j]
 ·rw [Qee oM];exact⟨oP,oP,fun h=>by simp at h,fun _=>rfl⟩
theorem QpQ (a:Option Us)(n c m:Nat)(x:Int)(f:Nat ->Int)(w:Ur)(hn:n<=1048576)(hf:Byt f)(h:Seg w a n f)(hm:Cnt f n x.toNat m):
  Cl 99 #[Uf a n c,Ud x] w (Rt w (Ul #[Ug .u64 ((gX f n m x).1:Int),Ud (gX f n m x).2.1,Ud ((gX f n m x).2.2:Int)])):=by
 by_cases r:x<0 \/(n:Int)<x
 ·rw [Qee oM];exact Qk9 a n c x w hn r
 ·obtain⟨p,rfl⟩:∃p:Nat,x=(p:Int):=⟨x.toNat,oM⟩;have q:Cnt f n p m:=oW hm;have:=QpO a n c p m f w hn hf h oM q;by_cases z:p<n
  ·rw [QgV z];exact this
  ·have g:p=n:=oM;subst g;have y:m=0:=by
    rcases Vb m with j|j
    ·exact j
    ·have:=(q.2.1 0 j).1;omega
   subst y;have k:guC f p p 0=1:=(by unfold guC;rw [if_pos oM]);have v:guV f p p 0=0:=(by unfold guV;rw [k];simp);have u:guA f p p 0=p:=(by unfold guA;rw [k];simp);rw [k,v,u] at this;rw [Qee oM];exact this
theorem Qd3 (f:Nat ->Int)(p:Nat):∀j,Qb8 f p (j+1)=(f p%128).toNat+128*Qb8 f (p+1) j
 | 0=>by simp [Qb8]
 | j+1=>by
  have k:=Qd3 f p j;show Qb8 f p (j+1)+(f (p+(j+1))%128).toNat*128^(j+1)=_;rw [k];show _=(f p%128).toNat+128*(Qb8 f (p+1) j+(f (p+1+j)%128).toNat*128^j);rw [show p+1+j=p+(j+1) from by omega,Va,Nat.mul_add];have:(f (p+(j+1))%128).toNat*(128^j*128)=128*((f (p+(j+1))%128).toNat*128^j):=by
   rw [Ye (128^j) 128,<- Yf,Ye _ 128,Yf]
  omega
def At (f:Nat ->Int)(p:Nat)(U:List Int):Prop:=∀i,i<U.length ->f (p+i)=U.getD i 0
theorem At.tail(h:At f p (z::U)):At f (p+1) U:=by
 intro i hi;have:=h (i+1) oS;rw [show p+1+i=p+(i+1) from by omega,this];simp
theorem At.head(h:At f p (z::U)):f p=z:=by simpa using h 0 oP
theorem Qma (k:Nat):∀(V p:Nat) (f:Nat ->Int),V<128^(k+1) ->At f p (uvF k V) ->
  (∀i,i+1<(uvF k V).length ->128<=f (p+i)/\ f (p+i)<256)/\ (0<=f (p+((uvF k V).length - 1))/\ f (p+((uvF k V).length - 1))<128)/\ (0<V ->f (p+((uvF k V).length - 1))≠0)/\ Qb8 f p (uvF k V).length=V:=by
 have t:∀(k V p:Nat) (f:Nat ->Int),V<128 ->At f p (uvF k V) ->
   (∀i,i+1<(uvF k V).length ->128<=f (p+i)/\ f (p+i)<256)/\ (0<=f (p+((uvF k V).length - 1))/\ f (p+((uvF k V).length - 1))<128)/\ (0<V ->f (p+((uvF k V).length - 1))≠0)/\ Qb8 f p (uvF k V).length=V:=by
  intro k V p f m h;rw [Qdo k V m] at h ⊢;have j:=h.head;refine⟨fun i hi=>by simp at hi,?_,?_,?_⟩
  ·simp;rw [j];omega
  ·simp;rw [j];omega
  ·simp [Qb8];rw [j];omega
 induction k with
 | zero=>intro V p f m h;exact t 0 V p f (oW m) h
 | succ k ih=>
  intro V p f m h;by_cases u:V<128
  ·exact t (k+1) V p f u h
  ·rw [QeH k V u] at h ⊢;have q:=h.head;have o:=(Qah k (V/128)).2;obtain⟨v,y,z,g⟩:=ih (V/128) (p+1) f (by rw [Va] at m;omega) h.tail;obtain⟨l,r⟩:∃l,(uvF k (V/128)).length=l+1:=⟨(uvF k (V/128)).length - 1,oM⟩;rw [r] at v y z g;simp only [Vh,r];refine⟨?_,?_,?_,?_⟩
   ·intro i hi;by_cases j:i=0
    ·subst j;simp;rw [q];omega
    ·have:=v (i - 1) oM;rwa [show p+1+(i - 1)=p+i from by omega] at this
   ·have:=y;rw [show p+1+(l+1 - 1)=p+(l+1+1 - 1) from by omega] at this;exact this
   ·intro _;have:=z oM;rw [show p+1+(l+1 - 1)=p+(l+1+1 - 1) from by omega] at this;exact this
   ·rw [Qd3,g,q];omega
theorem Qpf(hV:V<18446744073709551616)(h:At f p (uvF 9 V))(hn:p+(uvF 9 V).length<=n)(hm:Cnt f n p m):
  gX f n m (p:Int)=(V,((p+(uvF 9 V).length:Nat):Int),0):=by
 have i:=Qah 9 V;obtain⟨z,g,y,k⟩:=Qma 9 V p f oM h;obtain⟨l,u⟩:∃l,(uvF 9 V).length=l+1:=⟨(uvF 9 V).length - 1,oM⟩;rw [u] at z g y k hn i ⊢;simp only [Uz] at g y;have b:m=l:=by
  rcases Nat.lt_trichotomy m l with r|r|r
  ·have A:=(z m oM).1;have E:=hm.2.2 oM oM;omega
  ·exact r
  ·have:=(hm.2.1 l r).2;omega
 subst b;have t:m=9 ->f (p+m)<=1:=by
  intro e;subst e;have j:Qb8 f p (9+1)=Qb8 f p 9+(f (p+9)%128).toNat*128^9:=rfl;rw [j] at k;have q:(f (p+9)%128).toNat=(f (p+9)).toNat:=oM;rw [q] at k;simp only [Nat.reducePow] at k;omega
 have s:0<m ->f (p+m)≠0:=by
  intro M;refine y ?_;rcases Vb V with v|v
  ·rw [v,Qdo 9 0 oM] at u;simp at u;omega
  ·exact v
 have o:guC f n p m=0:=by
  unfold guC;rw [if_neg oM,if_neg (by rintro⟨j,q⟩;have:=t j;omega),if_neg (by rintro⟨j,q⟩;exact s j q)]
 rw [QgV oM];unfold guV guA;rw [o];simp [k];omega
theorem QcW(h:i<U.length):(U++W).getD i 0=U.getD i 0:=by
 simp [UR,h,List.getElem?_append_left]
theorem Qmb (k:Nat):∀(m p:Nat) (f:Nat ->Int),m<=k ->(∀i,i<m ->128<=f (p+i)/\ f (p+i)<256) ->0<=f (p+m) ->f (p+m)<128 ->(0<m ->f (p+m)≠0) ->
  uvF k (Qb8 f p (m+1))=(UT (m+1)).map (fun i=>f (p+i)):=by
 have E:∀(m p:Nat) (f:Nat ->Int),0<=f (p+m) ->f (p+m)<128 ->f (p+m)≠0 ->0<Qb8 f p (m+1):=by
  intro m p f q r u;show 0<Qb8 f p m+(f (p+m)%128).toNat*128^m;have:0<(f (p+m)%128).toNat*128^m:=Nat.mul_pos oM (Nat.pow_pos oM);omega
 induction k with
 | zero=>
  intro m p f o _ q r _;obtain rfl:m=0:=oM;have e:Qb8 f p 1=(f p).toNat:=by simp [Qb8];simp at q r;omega
  rw [show (0:Nat)+1=1 from rfl,e,Qdo 0 _ (by simp at q r;omega)];simp at q ⊢;omega
 | succ k ih=>
  intro m p f o v q r u;rcases Vb m with rfl|s
  ·have e:Qb8 f p 1=(f p).toNat:=(by simp [Qb8];simp at q r;omega);rw [show (0:Nat)+1=1 from rfl,e,Qdo _ _ (by simp at q r;omega)];simp at q ⊢;omega
  ·obtain⟨j,rfl⟩:∃j,m=j+1:=⟨m - 1,oM⟩;have e:=Qd3 f p (j+1);have b:=v 0 oM;simp only [Nat.add_zero] at b;have y:0<=f (p+1+j):=(by rw [show p+1+j=p+(j+1) from by omega];exact q);have z:f (p+1+j)<128:=(by rw [show p+1+j=p+(j+1) from by omega];exact r);have h:f (p+1+j)≠0:=(by rw [show p+1+j=p+(j+1) from by omega];exact u s);have M:=E j (p+1) f y z h;have A:=ih j (p+1) f oM (fun i hi=>by have:=v (i+1) oM;rwa [show p+(i+1)=p+1+i from by omega] at this) y z (fun _=>h);rw [e,QeH k _ oM];have g:((f p%128).toNat+128*Qb8 f (p+1) (j+1))/128=Qb8 f (p+1) (j+1):=oM;have t:(((128+((f p%128).toNat+128*Qb8 f (p+1) (j+1))%128:Nat)):Int)=f p:=oM;rw [g,t,A];conv=>rhs;rw [List.range_succ_eq_map]
   simp only [Vm,VR,Nat.add_zero];congr 1;apply Vr;intro i _;show f (p+1+i)=f (p+(i+1));rw [show p+1+i=p+(i+1) from by omega]
theorem Qnu(hf:Byt f)(hm:Cnt f n x.toNat m)(h:(gX f n m x).2.2=0):
  ∃p:Nat,x=(p:Int)/\ p+m+1<=n/\ (gX f n m x).1<18446744073709551616/\ (gX f n m x).2.1=((p+m+1:Nat):Int)/\ uvF 9 (gX f n m x).1=(UT (m+1)).map (fun i=>f (p+i)):=by
 by_cases t:0<=x/\ x<n
 ·obtain⟨p,rfl⟩:∃p:Nat,x=(p:Int):=⟨x.toNat,oM⟩;have k:Cnt f n p m:=oW hm;rw [QgV oM] at h ⊢;have j:guC f n p m=0:=h;have q:¬n<=p+m:=fun q=>by unfold guC at j;rw [if_pos q] at j;omega
  have r:¬(m=9/\ 1<f (p+m)):=fun r=>by unfold guC at j;rw [if_neg q,if_pos r] at j;omega
  have u:¬(0<m/\ f (p+m)=0):=fun u=>by unfold guC at j;rw [if_neg q,if_neg r,if_pos u] at j;omega
  have v:guV f n p m=Qb8 f p (m+1):=by unfold guV;rw [if_pos j]
  have g:guA f n p m=p+m+1:=by unfold guA;rw [if_pos j]
  have y:f (p+m)<128:=by
   by_cases z:m=9
   ·omega
   ·exact k.2.2 oM (oH k.1)
  refine⟨p,rfl,oM,?_,by show (guA f n p m:Int)=_;rw [g],?_⟩
  ·show guV f n p m<_;rw [v];exact QfS hf p m k.1 (fun z=>oM) (m+1) zL
  ·show uvF 9 (guV f n p m)=_;rw [v];exact Qmb 9 m p f k.1 (fun i hi=>⟨(k.2.1 i hi).2,(hf _).2⟩) (hf _).1 y (fun h0 e=>u ⟨h0,e⟩)
 ·rw [Qee oM] at h;simp at h
noncomputable def cN (f:Nat ->Int)(n p:Nat):Nat:=(Qmv f n p).choose
theorem Qds (f:Nat ->Int)(n p:Nat):Cnt f n p (cN f n p):=(Qmv f n p).choose_spec
noncomputable def rd (f:Nat ->Int)(n x:Nat)(most:Int):Option (Nat×Nat):=
 if (gX f n (cN f n x) (x:Int)).2.2=0/\ ((gX f n (cN f n x) (x:Int)).1:Int)<=most then Uq ((gX f n (cN f n x) (x:Int)).1,(gX f n (cN f n x) (x:Int)).2.1.toNat) else Up
theorem Qbi{x:Nat}(h:U=(UT m).map (fun i=>f (x+i))):At f x U:=by
 intro i hi;subst h;have hi':i<m:=oW hi;simp [UR,hi']
theorem Qav(hf:Byt f){x:Nat}:
  rd f n x most=Uq (V,x')↔V<18446744073709551616/\ (V:Int)<=most/\ At f x (uvF 9 V)/\ x'=x+(uvF 9 V).length/\ x'<=n:=by
 constructor
 ·intro h;unfold rd at h;split at h
  ·rename_i hc;injection h with h;injection h with h1 h2;obtain⟨p,g,t,j,m,k⟩:=Qnu hf (oW (Qds f n x)) hc.1;have z:p=x:=oM;subst z;rw [h1] at j k hc;have u:(uvF 9 V).length=cN f n p+1:=(by rw [k];simp);refine⟨j,hc.2,Qbi k,?_,?_⟩
   ·rw [<- h2,m,u];simp;omega
   ·rw [<- h2,m];simp;omega
  ·cases h
 ·rintro⟨j,v,q,rfl,y⟩;have r:=Qpf j q y (Qds f n x);unfold rd;rw [r];simp [v];omega
def QbJ:Int ->List (Int×Int) ->List Int
 | _,[]=>[]
 | least,p::l=>uvF 9 (p.1 - least).toNat++uvF 9 (p.2 - p.1).toNat++QbJ (p.2+2) l
def okS:Int ->List (Int×Int) ->Prop
 | _,[]=>True
 | least,p::l=>least<=p.1/\ p.1<=p.2/\ p.2<=1000000000/\ okS (p.2+2) l
noncomputable def Qaz (f:Nat ->Int)(n:Nat):Nat ->Int ->Nat ->Option (List (Int×Int)×Nat)
 | 0,_,x=>Uq ([],x)
 | k+1,least,x=>do
  let (skip,x1) <- rd f n x (1000000000 - least)
  let (more,x2) <- rd f n x1 (1000000000 - (least+skip))
  let (l,x3) <- Qaz f n k (least+skip+more+2) x2
  Uq ((least+(skip:Int),least+(skip:Int)+(more:Int))::l,x3)
theorem At.app{x:Nat}:At f x (U++W)↔At f x U/\ At f (x+U.length) W:=by
 constructor
 ·intro h;refine⟨fun i hi=> ?_,fun i hi=> ?_⟩
  ·have:=h i oS;rw [this,QcW hi]
  ·have:=h (U.length+i) oS;rw [Uy,this];simp [UR,VS]
 ·rintro⟨k,m⟩ i hi;by_cases j:i<U.length
  ·rw [k i j,QcW j]
  ·have:=m (i - U.length) (by simp at hi;omega);rw [show x+U.length+(i - U.length)=x+i from by omega] at this;rw [this];simp [UR,VS (show U.length<=i by omega)]
theorem Qe6(hf:Byt f):∀(k:Nat) (j:Int) (x:Nat) (l:List (Int×Int)) (x':Nat),0<=j ->
  (Qaz f n k j x=Uq (l,x')/\ x<=n↔l.length=k/\ okS j l/\ At f x (QbJ j l)/\ x'=x+(QbJ j l).length/\ x'<=n):=by
 intro k;induction k with
 | zero=>
  intro j x l x' _;cases l with
  | nil=>simp [Qaz,QbJ,okS,At];omega
  | cons p l=>simp [Qaz]
 | succ k ih=>
  intro j x l x' hl;cases l with
  | nil=>
   simp only [VF];constructor
   ·rintro⟨h,_⟩;exfalso;unfold Qaz at h;cases u:rd f n x (1000000000 - j) with
    | none=>rw [u] at h;simp at h
    | some a=>
     rw [u] at h;simp only [YA,YB] at h;cases h2:rd f n a.2 (1000000000 - (j+a.1)) with
     | none=>rw [h2] at h;simp at h
     | some b=>
      rw [h2] at h;simp only [YB] at h;cases v:Qaz f n k (j+a.1+b.1+2) b.2 with
      | none=>rw [v] at h;simp at h
      | some c=>rw [v] at h;simp at h
   ·rintro⟨h,_⟩;omega
  | cons p l=>
   obtain⟨m,q⟩:=p;constructor
   ·rintro⟨h,Ha⟩;unfold Qaz at h;cases u:rd f n x (1000000000 - j) with
    | none=>rw [u] at h;simp at h
    | some a=>
     obtain⟨r,W⟩:=a;rw [u] at h;simp only [YA,YB] at h;cases h2:rd f n W (1000000000 - (j+r)) with
     | none=>rw [h2] at h;simp at h
     | some b=>
      obtain⟨y,O⟩:=b;rw [h2] at h;simp only [YB] at h;cases v:Qaz f n k (j+r+y+2) O with
      | none=>rw [v] at h;simp at h
      | some c=>
       obtain⟨t,Q⟩:=c;rw [v] at h;simp only [YB,Option.some.injEq,Prod.mk.injEq,List.cons.injEq] at h;obtain⟨⟨⟨g,z⟩,rfl⟩,rfl⟩:=h;obtain⟨s1,s2,B,o,s5⟩:=(Qav hf).1 u;obtain⟨t1,t2,C,M,D⟩:=(Qav hf).1 h2;obtain⟨F,P,R,S,T⟩:=(ih (j+r+y+2) O t Q oM).1 ⟨v,D⟩;subst g z;have A:(j+(r:Int) - j).toNat=r:=oM;have E:(j+(r:Int)+(y:Int) - (j+(r:Int))).toNat=y:=oM;refine⟨by simp [F],⟨by show j<=j+(r:Int);omega,by show j+(r:Int)<=_;omega,by show j+(r:Int)+(y:Int)<=_;omega,P⟩,?_,?_,T⟩
       ·show At f x (uvF 9 _++uvF 9 _++QbJ _ t);simp only [A,E];rw [At.app,At.app];refine⟨⟨B,o▸C⟩,?_⟩;rw [Vg,<- Uy,<- o,<- M];exact R
       ·show Q=x+(uvF 9 _++uvF 9 _++QbJ _ t).length;simp only [A,E,Vg];rw [S,M,o];omega
   ·rintro⟨u,⟨K,L,N,X⟩,v,H,J⟩;have Hb:j<=m:=K;have Hc:m<=q:=L;have Hd:q<=1000000000:=N;have s:At f x (uvF 9 (m - j).toNat++uvF 9 (q - m).toNat++QbJ (q+2) l):=v;have I:x'=x+(uvF 9 (m - j).toNat++uvF 9 (q - m).toNat++QbJ (q+2) l).length:=H;rw [At.app,At.app] at s;rw [Vg,Vg] at I;obtain⟨⟨U,V⟩,i⟩:=s;rw [Vg,<- Uy] at i;have Y:rd f n x (1000000000 - j)=Uq ((m - j).toNat,x+(uvF 9 (m - j).toNat).length):=(Qav hf).2 ⟨oM,oM,U,rfl,oM⟩;have g:j+(((m - j).toNat:Nat):Int)=m:=oM;have Z:rd f n (x+(uvF 9 (m - j).toNat).length) (1000000000 - (j+(((m - j).toNat:Nat):Int)))=Uq ((q - m).toNat,x+(uvF 9 (m - j).toNat).length+(uvF 9 (q - m).toNat).length):=(Qav hf).2 ⟨oM,oM,V,rfl,oM⟩;have z:j+(((m - j).toNat:Nat):Int)+(((q - m).toNat:Nat):Int)=q:=oM;have G:=((ih (q+2) (x+(uvF 9 (m - j).toNat).length+(uvF 9 (q - m).toNat).length) l x' oM).2 ⟨oW u,X,i,oM,J⟩).1;refine⟨?_,oM⟩;unfold Qaz;rw [Y];simp only [YA,YB];rw [Z];simp only [YB,z];rw [G];simp only [YB,g,z]
def Qdt:List (Int×List (Int×Int)) ->List Int
 | []=>[]
 | p::g=>uvF 9 p.1.toNat++uvF 9 p.2.length++QbJ 1 p.2++Qdt g
def okR:Int ->Int ->List (Int×List (Int×Int)) ->Prop
 | _,_,[]=>True
 | before,left,p::g=>before<p.1/\ 0<=p.1/\ p.1<=7/\ p.2≠[]/\ (p.2.length:Int)<=left/\ okS 1 p.2/\ okR p.1 (left - p.2.length) g
noncomputable def QaF (f:Nat ->Int)(n:Nat):Nat ->Int ->Int ->Nat ->Option (List (Int×List (Int×Int))×Nat)
 | 0,_,_,x=>Uq ([],x)
 | k+1,before,left,x=>
  (rd f n x 7).bind fun a=>
   if (a.1:Int)<=before then Up else
   (rd f n a.2 left).bind fun b=>
    if b.1=0 then Up else
    (Qaz f n b.1 1 b.2).bind fun c=>
     (QaF f n k (a.1:Int) (left - (b.1:Int)) c.2).bind fun d=>Uq (((a.1:Int),c.1)::d.1,d.2)
theorem Qfm(hf:Byt f):∀(k:Nat) (before j:Int) (x:Nat) (g:List (Int×List (Int×Int))) (x':Nat),j<=1000 ->
  (QaF f n k before j x=Uq (g,x')/\ x<=n↔g.length=k/\ okR before j g/\ At f x (Qdt g)/\ x'=x+(Qdt g).length/\ x'<=n):=by
 intro k;induction k with
 | zero=>
  intro before j x g x' _;cases g with
  | nil=>simp [QaF,Qdt,okR,At];omega
  | cons p g=>simp [QaF]
 | succ k ih=>
  intro before j x g x' Ha;constructor
  ·rintro⟨h,Hc⟩;unfold QaF at h;obtain⟨a,q,h⟩:=Option.bind_eq_some_iff.1 h;split at h
   ·cases h
   ·rename_i hab;obtain⟨b,v,h⟩:=Option.bind_eq_some_iff.1 h;split at h
    ·cases h
    ·rename_i hb0;obtain⟨c,y,h⟩:=Option.bind_eq_some_iff.1 h;obtain⟨d,z,h⟩:=Option.bind_eq_some_iff.1 h;obtain⟨m,x1⟩:=a;obtain⟨i,x2⟩:=b;obtain⟨l,M⟩:=c;obtain⟨u,O⟩:=d;simp only [Option.some.injEq,Prod.mk.injEq] at h;obtain⟨rfl,rfl⟩:=h;dsimp only at q v y z hab hb0;obtain⟨s1,s2,W,s,s5⟩:=(Qav hf).1 q;obtain⟨t1,t2,t3,A,t5⟩:=(Qav hf).1 v;obtain⟨t,u2,u3,E,u5⟩:=(Qe6 hf i 1 x2 l M oM).1 ⟨y,t5⟩;obtain⟨v1,v2,v3,v4,v5⟩:=(ih m (j - i) M u O oM).1 ⟨z,u5⟩;have N:l≠[]:=(by intro e;subst e;simp at t;omega);refine⟨by simp [v1],⟨by show before<(m:Int);omega,by show (0:Int)<=(m:Int);omega,by show (m:Int)<=7;omega,N,by show ((l.length:Nat):Int)<=j;omega,u2,?_⟩,?_,?_,v5⟩
     ·show okR (m:Int) (j - ((l.length:Nat):Int)) u;rw [t];exact v2
     ·show At f x (uvF 9 ((m:Int)).toNat++uvF 9 l.length++QbJ 1 l++Qdt u);rw [Yw,t,At.app,At.app,At.app];simp only [Vg,<- Uy];rw [<- s,<- A,<- E];exact⟨⟨⟨W,t3⟩,u3⟩,v3⟩
     ·show O=x+(uvF 9 ((m:Int)).toNat++uvF 9 l.length++QbJ 1 l++Qdt u).length;rw [Yw,t];simp only [Vg];rw [v4,E,A,s];omega
  ·rintro⟨q,v,y,z,L⟩;cases g with
   | nil=>simp at q
   | cons p g=>
    obtain⟨r,l⟩:=p;obtain⟨X,B,C,D,P,R,S⟩:=v;have Hd:before<r:=X;have He:0<=r:=B;have Hf:r<=7:=C;have F:l≠[]:=D;have Hg:((l.length:Nat):Int)<=j:=P;have T:okR r (j - ((l.length:Nat):Int)) g:=S;have o:At f x (uvF 9 r.toNat++uvF 9 l.length++QbJ 1 l++Qdt g):=y;have K:x'=x+(uvF 9 r.toNat++uvF 9 l.length++QbJ 1 l++Qdt g).length:=z;rw [At.app,At.app,At.app] at o;simp only [Vg,<- Uy] at o K;obtain⟨⟨⟨Q,U⟩,V⟩,Y⟩:=o;have Hb:0<l.length:=List.length_pos_iff.2 F;have Z:rd f n x 7=Uq (r.toNat,x+(uvF 9 r.toNat).length):=(Qav hf).2 ⟨oM,oM,Q,rfl,oM⟩;have G:rd f n (x+(uvF 9 r.toNat).length) j=Uq (l.length,x+(uvF 9 r.toNat).length+(uvF 9 l.length).length):=(Qav hf).2 ⟨oM,oM,U,rfl,oM⟩;have H:=((Qe6 (n:=n) hf l.length 1 (x+(uvF 9 r.toNat).length+(uvF 9 l.length).length) l (x+(uvF 9 r.toNat).length+(uvF 9 l.length).length+(QbJ 1 l).length) oM).2 ⟨rfl,R,V,rfl,oM⟩).1;have J:((r.toNat:Nat):Int)=r:=oM;have I:=((ih r (j - ((l.length:Nat):Int)) (x+(uvF 9 r.toNat).length+(uvF 9 l.length).length+(QbJ 1 l).length) g x' oM).2 ⟨oW q,T,Y,oM,L⟩).1;refine⟨?_,oM⟩;unfold QaF;rw [Z,YB,if_neg (by show¬((r.toNat:Nat):Int)<=before;omega),G,YB,if_neg oQ,H,YB];dsimp only;rw [J,I,YB]
noncomputable def Qhw (f:Nat ->Int)(n x:Nat):Option (List (Int×List (Int×Int))×Nat):=
 (rd f n x 8).bind fun a=>QaF f n a.1 (-1) 1000 a.2
def Qi6 (g:List (Int×List (Int×Int))):List Int:=uvF 9 g.length++Qdt g
theorem Qkk:∀(g:List (Int×List (Int×Int))) (before j:Int),okR before j g -> -1<=before ->before<=7 ->(g.length:Int)<=7 - before:=by
 intro g;induction g with
 | nil=>intro before j _ k m;simp;omega
 | cons p g ih=>
  rintro before j ⟨r,u,v,y,z,h,q⟩ k m;have:=ih p.1 _ q oM oM;simp only [Vh];omega
theorem Qcj(hf:Byt f){x:Nat}(hx:x<=n){g:List (Int×List (Int×Int))}:
  Qhw f n x=Uq (g,x')↔okR (-1) 1000 g/\ At f x (Qi6 g)/\ x'=x+(Qi6 g).length/\ x'<=n:=by
 constructor
 ·intro h;obtain⟨⟨u,i⟩,k,j⟩:=Option.bind_eq_some_iff.1 h;dsimp only at j;obtain⟨p,s,y,z,t⟩:=(Qav hf).1 k;obtain⟨v1,v2,v3,v4,o⟩:=(Qfm hf u (-1) 1000 i g x' oM).1 ⟨j,t⟩;unfold Qi6;rw [v1,At.app,Vg,<- z];exact⟨v2,⟨y,v3⟩,oM,o⟩
 ·rintro⟨k,j,m,v⟩;unfold Qi6 at j m;rw [At.app] at j;rw [Vg] at m;have b:=Qkk g (-1) 1000 k oM oM;have q:rd f n x 8=Uq (g.length,x+(uvF 9 g.length).length):=(Qav hf).2 ⟨oM,oM,j.1,rfl,oM⟩;have r:=((Qfm (n:=n) hf g.length (-1) 1000 (x+(uvF 9 g.length).length) g x' oM).2 ⟨rfl,k,j.2,oM,v⟩).1;unfold Qhw;rw [q,YB];exact r
variable {EX : Nat -> Option Value}
noncomputable def rdI (f:Nat ->Int)(n:Nat)(x most:Int):Option (Nat×Nat):=if 0<=x then rd f n x.toNat most else Up
theorem Qa5 (f:Nat ->Int)(n p:Nat)(most:Int):rdI f n (p:Int) most=rd f n p most:=by
 unfold rdI;rw [if_pos oM];simp
theorem uvC (cb B:Nat)(a:Option Us)(n c:Nat)(x:Int)(f:Nat ->Int)(aT aS aL aE:Us)(w:Ur)(hn:n<=1048576)(hf:Byt f)(hcur:Cur EX w cb a n c x)(hs:Seg w a n f)(hab:∀y,a=Uq y ->y.block≠cb)(hE:QcL w B aT aS aL aE)(hBc:B<=cb):
  Cl 166 #[Uk (Uc cb)] w fun e w'=>w.grownBy w' (Uq cb)/\
   ((∃V x':Nat,V<18446744073709551616/\ (∀most:Int,rdI f n x most=if (V:Int)<=most then Uq (V,x') else Up)/\ e=Ui (Ul #[Ug .u64 (V:Int),.nilIface])/\ Cur EX w' cb a n c (x':Int)) \/
    ((∀most:Int,rdI f n x most=Up)/\∃(t:TypeId) (v:Value) (y:Int),e=Ui (Ul #[Ug .u64 0,.iface t v])/\ Cur EX w' cb a n c y)):=by
 by_cases A:x<0 \/(n:Int)<=x
 ·refine(QqM cb B a n c x aT aS aL aE w hn hcur A hE).mono ?_;rintro e w1 ⟨E,rfl,s,g,q⟩;refine⟨Qag (Qbo w (Uq cb)) q,.inr ⟨fun most=> ?_,_,_,x,rfl,hcur.bw q hcur.lt⟩⟩;unfold rdI;split
  ·rename_i j;unfold rd;rw [Qee oM];simp
  ·rfl
 ·obtain⟨p,rfl⟩:∃p:Nat,x=(p:Int):=⟨x.toNat,oM⟩;have k:p<n:=oM;rcases hs with h|⟨b,off,rfl,o,i⟩
  ·omega
  have z:=Qds f n p;have u:=QcV (x:=(p:Int)) (oW z) hf hn oM oM;rw [QgV k] at u;refine(Qrn cb B b off n c p (cN f n p) f aT aS aL aE w hn hf hcur k z hE hBc (hab _ rfl) o i).mono ?_;rintro e w1 ⟨r,⟨j,rfl,m⟩|⟨j,E,rfl,s,g,y,m⟩⟩
  ·refine⟨r,.inl ⟨guV f n p (cN f n p),guA f n p (cN f n p),u.1,fun most=> ?_,rfl,m⟩⟩;rw [Qa5];unfold rd;rw [QgV k,j];simp
  ·refine⟨r,.inr ⟨fun most=> ?_,_,_,y,rfl,m⟩⟩;rw [Qa5];unfold rd;rw [QgV k];simp [j]
theorem QbP (cb B:Nat)(a:Option Us)(n c:Nat)(x most:Int)(f:Nat ->Int)(aT aS aL aE:Us)(w:Ur)(hn:n<=1048576)(hf:Byt f)(hcur:Cur EX w cb a n c x)(hs:Seg w a n f)(hab:∀y,a=Uq y ->y.block≠cb)(hE:QcL w B aT aS aL aE)(hBc:B<=cb)
  (hm0: -1000000000000<=most) (hm1:most<=1000000000000):
  Cl 149 #[Uk (Uc cb),Ud most] w fun e w'=>w.grownBy w' (Uq cb)/\
   ((∃V x':Nat,rdI f n x most=Uq (V,x')/\ (V:Int)<=most/\ e=Ui (Ul #[Ud (V:Int),.nilIface])/\ Cur EX w' cb a n c (x':Int)) \/
    (rdI f n x most=Up/\∃(t:TypeId) (v:Value) (y:Int),e=Ui (Ul #[Ud 0,.iface t v])/\ Cur EX w' cb a n c y)):=by
 have O:=hcur.lt;have g:=hid (uvC cb B a n c x f aT aS aL aE w hn hf hcur hs hab hE hBc);have h:=hid hE;clear hE hcur hs hab;go_enter func149,ntmps149;go_wp2_with fail;refine g.mono ?_;rintro e w1 ⟨u,⟨V,x',M,z,rfl,r⟩|⟨z,t,v,y,rfl,r⟩⟩
 ·have i:=h.bw ((Below.refl B w).grown u oM (fun k hk=>oI hk));obtain⟨U,Q⟩:=i.gM;have m:=hid u;have q:=hid z;have j:=hid r;clear u z r i g h;by_cases s:most<0
  ·go_wp2_with fail;go_quiet (fail);go_wp2_with fail;go_ret2;exact⟨Qaf m (Qa2 _ _ _),.inr ⟨by rw [q.out,if_neg oM],_,_,_,rfl,j.bw (QaX zI _) j.lt⟩⟩
  ·have E:IntKind.u64.wrap most=most:=(by rw [Yt];omega);have A:decide (most<0)=false:=oW s;by_cases o:(V:Int)<=most
   ·have b:decide (most<(V:Int))=false:=oW o;have p:IntKind.i64.wrap (V:Int)=(V:Int):=(by rw [IntKind.wrap_i64];omega);go_wp2_with fail;go_ret2;refine⟨m,.inl ⟨V,x',by rw [q.out,if_pos o],o,?_,j⟩⟩;first|rfl|rw [p]
   ·have b:decide (most<(V:Int))=true:=oS;go_wp2_with fail;go_quiet (fail);go_wp2_with fail;go_ret2;exact⟨Qaf m (Qa2 _ _ _),.inr ⟨by rw [q.out,if_neg oM],_,_,_,rfl,j.bw (QaX zI _) j.lt⟩⟩
 ·have m:=hid u;have q:=hid z;have j:=hid r;clear u z r g h;go_wp2_with fail;go_ret2;exact⟨m,.inr ⟨q _,_,_,_,rfl,j⟩⟩
noncomputable def uL (l:List Lf)(p:List ByteArray):Nat ->List Lf
 | 0=>[]
 | k+1=>if yes (nx p (gL l k)≠Up)=true then uL l p k++[gL l k] else uL l p k
noncomputable def wL (l:List Lf):Nat ->List ByteArray ->List Lf
 | 0,_=>[]
 | f+1,p=>(kS l p l.length).flatMap fun y=>if y.2=3 then wL l f (p++[y.1]) else dsK l p y l.length
theorem Qjy (l:List Lf)(p:List ByteArray)(s:ByteArray):∀k,dsK l p (s,3) k=uL l (p++[s]) k
 | 0=>rfl
 | k+1=>by
  have j:=Qjy l p s k;by_cases h:nx p (gL l k)=Uq (s,3)
  ·rw [Qb7 h];simp only [uL];rw [if_pos (Qal (Qdc.1 h)),j]
  ·rw [QbV h];simp only [uL];rw [if_neg (by rw [Qaj (fun hh=>h (Qdc.2 hh))];simp),j]
theorem QbC {α β:Type}{f g:α ->List β}:∀{ys:List α},(∀y∈ys,f y=g y) ->ys.flatMap f=ys.flatMap g
 | [],_=>rfl
 | a::r,h=>by
  rw [Vz,Vz,h a (Vt),QbC (fun y hy=>h y (VT _ hy))]
theorem Qef {R F T:Nat ->Int}{n:Nat}{l:List Lf}(p:List ByteArray)(h:QbU R F T n l l.length):∀k,k<=l.length ->(kS l p k).flatMap (fun y=>dsK l p y k)=uL l p k
 | 0,_=>rfl
 | k+1,hk=>by
  have b:=Qef p h k oM;cases e:nx p (gL l k) with
  | none=>
   rw [QcD e];have:(kS l p k).flatMap (fun y=>dsK l p y (k+1))=(kS l p k).flatMap (fun y=>dsK l p y k):=QbC fun y _=>QbV (by rw [e];simp);rw [this,b];simp only [uL];rw [if_neg (by rw [Qaj (fun hh=>hh e)];simp)]
  | some y=>
   have O:uL l p (k+1)=uL l p k++[gL l k]:=(by simp only [uL];rw [if_pos (Qal (by rw [e];simp))]);obtain⟨r,s⟩:=Qem p h k oM;rw [O,<- b,QcE e];by_cases m:(kS l p k).getLast? =Uq y
   ·rw [if_pos (Qal m)];obtain⟨i,u⟩:=List.getLast?_eq_some_iff.1 m;have v:y ∉ i:=fun hm=>by
     rw [u] at r;have:=(List.pairwise_append.1 r).2.2 y hm y (List.mem_singleton.2 rfl);rw [QaH.key.irr] at this;omega
    rw [u,Vw,Vw];simp only [Vz,VA,VC];rw [Qb7 e,<- Vu];congr 2;exact QbC fun z q=>QbV (by rw [e];simp;exact fun hh=>v (hh▸q))
   ·rw [if_neg (by rw [Qaj m];simp)];have v:y ∉ kS l p k:=fun hm=>by
     obtain⟨i,u⟩:=zE (kS l p k);rw [u] at r m hm;rcases VU i with A|⟨Y,z,q⟩
     ·rw [A] at hm;cases hm
     ·rw [q] at m hm r;simp only [VV] at m hm r;have Q:z≠y:=fun hh=>m (by rw [hh];simp);rcases List.mem_append.1 hm with t|t
      ·have E:=(List.pairwise_append.1 r).2.2 y t z (List.mem_singleton.2 rfl);obtain⟨j,o,g⟩:=(s z).1 (by rw [u,q];simp);have U:=QbQ (h.lt k o oM) g e;have V:=(QaH.key.neg y z).1 E;omega
      ·exact Q (List.mem_singleton.1 t).symm
    have M:dsK l p y k=[]:=by
     cases hd:dsK l p y k with
     | nil=>rfl
     | cons x xs=>
      obtain⟨j,o,g,_⟩:=QaZ.1 (show x∈dsK l p y k by rw [hd];exact Vt);exact absurd ((s y).2 ⟨j,o,g⟩) v
    rw [Vw];simp only [Vz,VA,VC];rw [Qb7 e,M,VI];congr 1;exact QbC fun z q=>QbV (by rw [e];simp;exact fun hh=>v (hh▸q))
theorem Qqb {R F T:Nat ->Int}{n:Nat}{l:List Lf}(h:QbU R F T n l l.length):∀f p,p.length+f=8 ->wL l f p=uL l p l.length
 | 0,p,hp=>by
  have:∀k,k<=l.length ->uL l p k=[]:=fun k=>by
   induction k with
   | zero=>intro _;rfl
   | succ k ih=>
    intro m;simp only [uL];rw [if_neg (by
     rw [Qaj (fun hh=> ?_)]
     ·simp
     ·have:=(QfG.1 hh).2;have:=(h k oM).1.1.2.1;omega),ih oM]
  exact(this _ zL).symm
 | f+1,p,hp=>by
  rw [<- Qef p h l.length zL];show (kS l p l.length).flatMap _=_;refine QbC fun y _=> ?_;by_cases j:y.2=3
  ·rw [if_pos j,Qqb h f (p++[y.1]) (by rw [Vg];simp;omega),<- Qjy];rw [show (y.1,(3:Int))=y by rw [<- j]]
  ·rw [if_neg j]
theorem QkO {R F T:Nat ->Int}{n:Nat}{l:List Lf}(h:QbU R F T n l l.length):∀k,k<=l.length ->uL l [] k=l.take k
 | 0,_=>by simp [uL]
 | k+1,hk=>by
  simp only [uL];rw [if_pos (Qal (QfG.2 ⟨List.nil_prefix,by have:=(h k oM).1.1.1;simp;omega⟩)),QkO h k oM,VP];congr 1;simp [gL,UR,show k<l.length by omega]
theorem Qnc{l:List Lf}(h:QbU R F T n l l.length):wL l 8 []=l:=by
 rw [Qqb h 8 [] rfl,QkO h _ zL,VQ]
variable {EX : Nat -> Option Value}
def Qby (f:Nat ->Int)(p L:Nat):ByteArray:=⟨((UT L).map fun i=>UInt8.ofNat (f (p+i)).toNat).toArray⟩
theorem Qdj{b off L:Nat}(hf:Byt f)(hc:∀i,i<L ->w.cell? (Ua b (off+p+i))=Uq (Ug .u8 (f (p+i)))):
  (convert 30 9 (Uf (Uq (Ua b (off+p))) L cap)).run prog w=.ok (Um (Qby f p L)) w:=by
 have r:((UT L).map fun i=>UInt8.ofNat (f (p+i)).toNat).length=L:=oP;have:=run_convert_bytes_back (P:=prog) w 30 9 5 (Ua b (off+p)) cap ((UT L).map fun i=>UInt8.ofNat (f (p+i)).toNat) underlying30 underlying5 underlying9 (fun j hj=>by
  have q:j<L:=oW hj;have e:(Addr.add (Ua b (off+p)) j)=(Ua b (off+p+j)):=by
   by_cases k:j=0
   ·subst k;simp [Addr.add]
   ·simp [Addr.add,k]
  rw [e,hc j q];have:=hf (p+j);simp only [List.getElem_map,List.getElem_range,Option.some.injEq,Value.int.injEq,true_and];have m:(UInt8.ofNat (f (p+j)).toNat).toNat=(f (p+j)).toNat%256:=oP;rw [m];omega)
 rw [r] at this;exact this
theorem QeF(ad:Us)(p cap:Nat)(f:Nat ->Int):(convert 30 9 (Uf (Uq ad) 0 cap)).run prog w=.ok (Um (Qby f p 0)) w:=
 run_convert_bytes_back (P:=prog) w 30 9 5 ad cap [] underlying30 underlying5 underlying9 (fun j hj=>by simp at hj)
def gtX (f:Nat ->Int)(n m:Nat)(x most:Int):ByteArray×Int×Nat:=
 if (gX f n m x).2.2≠0 then(⟨#[]⟩,x,(gX f n m x).2.2)
 else if most<0 \/most<(gX f n m x).1 then(⟨#[]⟩,x,4)
 else if (n:Int) - (gX f n m x).2.1<(gX f n m x).1 then(⟨#[]⟩,x,1)
 else(Qby f (gX f n m x).2.1.toNat (gX f n m x).1,(gX f n m x).2.1+(gX f n m x).1,0)
theorem QqI (a:Option Us)(n c m:Nat)(x most:Int)(f:Nat ->Int)(w:Ur)(hn:n<=1048576)(hnc:n<=c)(hf:Byt f)(h:Seg w a n f)(hm:Cnt f n x.toNat m)(hx:(Lit.int Uh x).wf=true)(hmo:(Lit.int Uh most).wf=true):
  Cl 66 #[Uf a n c,Ud x,Ud most] w (Rt w (Ul #[Um (gtX f n m x most).1,Ud (gtX f n m x most).2.1,Ud ((gtX f n m x most).2.2:Int)])):=by
 have Q:=bounds_i64 hx;have D:=bounds_i64 hmo;have E:=hid (QcV hm hf hn Q.1 Q.2);have v:=hid (QpQ a n c m x f w hn hf h hm);have H:Hid (gtX f n m x most=gtX f n m x most):=hid rfl;have u:Hid (gtX f n m x most=if (gX f n m x).2.2≠0 then(⟨#[]⟩,x,(gX f n m x).2.2)
   else if most<0 \/most<(gX f n m x).1 then(⟨#[]⟩,x,4)
   else if (n:Int) - (gX f n m x).2.1<(gX f n m x).1 then(⟨#[]⟩,x,1)
   else(Qby f (gX f n m x).2.1.toNat (gX f n m x).1,(gX f n m x).2.1+(gX f n m x).1,0)):=hid rfl
 obtain⟨T,z⟩:=zE (gtX f n m x most);have L:=hid z;rw [z];rw [z] at u;clear H z;have s:(gX f n m x).2.2=0 ->0<n:=fun h0=>by
  rcases Vb n with y|y
  ·rw [Qee oM] at h0;simp at h0
  ·exact y
 obtain⟨V,Z⟩:=zE ((gX f n m x).1);obtain⟨A,U⟩:=zE ((gX f n m x).2.1);obtain⟨C,g⟩:=zE ((gX f n m x).2.2);rw [Z,U,g] at u E v;rw [g] at s;clear Z U g hm hx hmo;have t:=E.out;by_cases Y:C=0
 ·subst Y;obtain⟨N,_,O,_⟩:=t;obtain⟨X,B⟩:=O rfl;clear O;obtain⟨q,rfl⟩:∃q:Nat,A=(q:Int):=⟨A.toNat,oM⟩;have Hc:=s rfl;clear s;by_cases y:most<0
  ·have e:Hid (T=(⟨#[]⟩,x,4)):=(by show _=_;rw [u.out];simp [y]);go_enter func66,ntmps66;go_wp2_with fail;refine v.mono ?_;rintro e w1 ⟨rfl,j⟩;have k:=hid j;clear j;go_wp2_with fail;go_ret3;exact⟨by rw [e.out];rfl,k⟩
  obtain⟨M,rfl⟩:∃M:Nat,most=(M:Int):=⟨most.toNat,oM⟩;have He:IntKind.u64.wrap (M:Int)=(M:Int):=by rw [Yt];omega
  have Hb:decide ((M:Int)<0)=false:=oP;by_cases I:M<V
  ·have e:Hid (T=(⟨#[]⟩,x,4)):=(by show _=_;rw [u.out];simp [I]);go_enter func66,ntmps66;go_wp2_with fail;refine v.mono ?_;rintro e w1 ⟨rfl,j⟩;have k:=hid j;clear j;go_wp2_with fail;go_ret3;exact⟨by rw [e.out];rfl,k⟩
  obtain⟨r,hr⟩:∃r:Nat,(r:Int)=(n:Int) - (q:Int):=⟨n - q,oM⟩;have Hf:IntKind.u64.wrap (IntKind.i64.wrap ((n:Int) - (q:Int)))=(r:Int):=by rw [Qa3 _ oM oM,Yt];omega
  have Ha:IntKind.u64.wrap ((n:Int) - (q:Int))=(r:Int):=by rw [Yt];omega
  by_cases F:r<V
  ·have e:Hid (T=(⟨#[]⟩,x,1)):=(by show _=_;rw [u.out,if_neg oP,if_neg oM,if_pos oM]);go_enter func66,ntmps66;go_wp2_with fail;refine v.mono ?_;rintro e w1 ⟨rfl,j⟩;have k:=hid j;clear j;go_wp2_with fail;go_ret3;exact⟨by rw [e.out];rfl,k⟩
  have e:Hid (T=(Qby f q V,(q:Int)+(V:Int),0)):=by show _=_;rw [u.out,if_neg oP,if_neg oM,if_neg oM];simp
  rcases h with h|⟨b,off,rfl,t,G⟩
  ·omega
  have Hd:IntKind.i64.wrap (V:Int)=(V:Int):=Qa3 _ oM oM;have o:∀(W:Ur),Bl w W ->∀cap,Hid ((convert 30 9 (Uf (Uq (Ua b (off+q))) V cap)).run prog W=.ok (Um (Qby f q V)) W):=fun W hW cap=>
   Qdj hf (fun i hi=>by rw [hW.cell (p:=(Ua b _)) t,Uy];exact G (q+i) oM)
  clear G u;by_cases R:q<c
  ·go_enter func66,ntmps66;go_wp2_with fail;refine v.mono ?_;rintro e w1 ⟨rfl,j⟩;have k:=hid j;have K:=fun cap=>(o w1 j cap).out;clear j o;go_wp2_with fail;go_ret3;exact⟨by rw [e.out];rfl,k⟩
  ·have J:V=0:=oM;subst J;have S:c<=q:=oM;clear o;go_enter func66,ntmps66;go_wp2_with fail;refine v.mono ?_;rintro e w1 ⟨rfl,j⟩;have k:=hid j;have K:=fun ad cap=>QeF (w:=w1) ad q cap f;clear j;go_wp2_with fail;go_ret3;exact⟨by rw [e.out];rfl,k⟩
 ·have e:Hid (T=(⟨#[]⟩,x,C)):=by show _=_;rw [u.out,if_pos Y]
  have P:0<C:=oM;go_enter func66,ntmps66;go_wp2_with fail;refine v.mono ?_;rintro e w1 ⟨rfl,j⟩;have k:=hid j;clear j;go_wp2_with fail;go_ret3;exact⟨by rw [e.out];rfl,k⟩
theorem Qjl(hf:Byt f)(i:Nat):((UInt8.ofNat (f i).toNat).toNat:Int)=f i:=by
 have:=hf i;have h:(UInt8.ofNat (f i).toNat).toNat=(f i).toNat:=oS;rw [h];omega
theorem Qdk (f:Nat ->Int)(p L:Nat):(Qby f p L).size=L:=by simp [Qby,ByteArray.size]
theorem Qb5(hf:Byt f)(p L:Nat):QaP (Qby f p L)=(UT L).map fun i=>f (p+i):=by
 unfold QaP Qby;simp only [VR];apply Vr;intro i _;exact Qjl hf (p+i)
theorem Qd8:∀{a b:List UInt8},(a.map fun x=>(x.toNat:Int))=(b.map fun x=>(x.toNat:Int)) ->a=b
 | [],[],_=>rfl
 | [],_::_,h=>by simp at h
 | _::_,[],h=>by simp at h
 | x::a,y::b,h=>by
  simp only [Vm,List.cons.injEq] at h;have e:x=y:=UInt8.toNat_inj.1 (Int.ofNat.inj h.1);rw [e,Qd8 h.2]
theorem Qh2 {t:ByteArray}(h:QaP s=QaP t):s=t:=by
 obtain⟨⟨s⟩⟩:=s;obtain⟨⟨t⟩⟩:=t;have e:s=t:=Qd8 h;rw [e]
theorem Qoj(hf:Byt f)(h:At f p (QaP s)):Qby f p s.size=s:=by
 apply Qh2;rw [Qb5 hf];apply Ve;intro i;by_cases hi:i<s.size
 ·have:=h i (by rw [Qa9];exact hi);have j:i<(QaP s).length:=by rw [Qa9];exact hi
  simp [hi,j,this,UR]
 ·have j:(QaP s).length<=i:=by rw [Qa9];omega
  rw [US j,US oS]
noncomputable def Qc4 (f:Nat ->Int)(n x:Nat)(most:Int):Option (ByteArray×Nat):=(rd f n x most).bind fun a=>if a.2+a.1<=n then Uq (Qby f a.2 a.1,a.2+a.1) else Up
theorem Qde(hf:Byt f){x:Nat}(hm:most<=1000000):
  Qc4 f n x most=Uq (s,x')↔(s.size:Int)<=most/\ At f x (Qae s)/\ x'=x+(Qae s).length/\ x'<=n:=by
 unfold Qc4 Qae;constructor
 ·intro h;cases j:rd f n x most with
  | none=>rw [j] at h;cases h
  | some a=>
   obtain⟨V,g⟩:=a;rw [j] at h;simp only [YB] at h;split at h
   ·rename_i hle;simp only [Option.some.injEq,Prod.mk.injEq] at h;obtain⟨rfl,rfl⟩:=h;obtain⟨y,r,u,v,z⟩:=(Qav hf).1 j;rw [Qdk,At.app,Qb5 hf,Vg,List.length_map,List.length_range];refine⟨r,⟨u,?_⟩,oM,hle⟩;rw [<- v];exact Qbi rfl
   ·cases h
 ·rintro⟨j,k,rfl,m⟩;rw [At.app] at k;rw [Vg,Qa9] at m ⊢;have q:rd f n x most=Uq (s.size,x+(uvF 9 s.size).length):=(Qav hf).2 ⟨oM,j,k.1,rfl,oM⟩;rw [q];simp only [YB];rw [if_pos oM,Qoj hf k.2,Uy]
section
variable (f : Nat -> Int) (n : Nat) (K : Int -> Int -> Bool)
noncomputable def Qe3 (kind:Int)(p:List ByteArray)(before:Dt)(acc:List Lf)(x:Nat):Option (Lf×Nat):=
 (rd f n x 7).bind fun a=>(rd f n a.2 1000000000).bind fun b=>
  if yes (Qbg before ((a.1:Int),(b.1:Int))<0/\ K (a.1:Int) (b.1:Int)=true/\ (∀y∈acc,¬(y.r=(a.1:Int)/\ y.q=(b.1:Int)))/\ acc.length≠1000)=true then
   if kind=2 then Uq (⟨p,true,(a.1:Int),(b.1:Int),ByteArray.empty⟩,b.2) else(Qc4 f n b.2 200).bind fun t=>Uq (⟨p,false,(a.1:Int),(b.1:Int),t.1⟩,t.2)
  else Up
noncomputable def Qhx (kind:Int)(p:List ByteArray):Nat ->Dt ->List Lf ->Nat ->Option (List Lf×Nat)
 | 0,_,acc,x=>Uq (acc,x)
 | k+1,before,acc,x=>(Qe3 f n K kind p before acc x).bind fun a=>Qhx kind p k (a.1.r,a.1.q) (acc++[a.1]) a.2
noncomputable def Qgd (before:Ky)(x:Nat):Option (Ky×Nat):=(Qc4 f n x 40).bind fun a=>if yes (a.1.size≠0/\ a.2<n/\ Qb9 before (a.1,f a.2)<0)=true then Uq ((a.1,f a.2),a.2+1) else Up
noncomputable def Qik (rec:List ByteArray ->List Lf ->Nat ->Option (List Lf×Nat))(p:List ByteArray)(y:Ky)(acc:List Lf)(x:Nat):Option (List Lf×Nat):=
 if y.2=3 then rec (p++[y.1]) acc x else if y.2=1 \/y.2=2 then(rd f n x 1000).bind fun a=>if a.1=0 then Up else Qhx f n K y.2 (p++[y.1]) a.1 (0,0) acc a.2 else Up
noncomputable def Qkx (rec:List ByteArray ->List Lf ->Nat ->Option (List Lf×Nat))(p:List ByteArray):Nat ->Ky ->List Lf ->Nat ->Option (List Lf×Nat)
 | 0,_,acc,x=>Uq (acc,x)
 | k+1,before,acc,x=>(Qgd f n before x).bind fun a=>(Qik f n K rec p a.1 acc a.2).bind fun b=>Qkx rec p k a.1 b.1 b.2
noncomputable def Qc1:Nat ->List ByteArray ->List Lf ->Nat ->Option (List Lf×Nat)
 | 0,_,_,_=>Up
 | d+1,p,acc,x=>(rd f n x 1000).bind fun a=>if a.1=0 then(if p.length=0 then Uq (acc,a.2) else Up) else if 8<=p.length then Up else Qkx f n K (Qc1 d) p a.1 (ByteArray.empty,0) acc a.2
noncomputable def QiG (fl:Bool)(p:List ByteArray)(x:Nat):Option (Lf×Nat):=
 (rd f n x 8).bind fun a=>(rd f n a.2 1000000000).bind fun b=>
  if fl=true then Uq (⟨p,fl,(a.1:Int),(b.1:Int),ByteArray.empty⟩,b.2) else(Qc4 f n b.2 200).bind fun t=>Uq (⟨p,fl,(a.1:Int),(b.1:Int),t.1⟩,t.2)
noncomputable def QnP (fl:Bool)(p:List ByteArray):Nat ->List Lf ->Nat ->Option (List Lf×Nat)
 | 0,acc,x=>Uq (acc,x)
 | k+1,acc,x=>(QiG f n fl p x).bind fun a=>QnP fl p k (acc++[a.1]) a.2
noncomputable def Qot (rec:List ByteArray ->List Lf ->Nat ->Option (List Lf×Nat))(p:List ByteArray)(y:Ky)(acc:List Lf)(x:Nat):Option (List Lf×Nat):=
 if y.2=3 then rec (p++[y.1]) acc x else if y.2=1 \/y.2=2 then(rd f n x 1000).bind fun a=>QnP f n (decide (y.2=2)) (p++[y.1]) a.1 acc a.2 else Up
noncomputable def QiY (rec:List ByteArray ->List Lf ->Nat ->Option (List Lf×Nat))(p:List ByteArray):Nat ->List Lf ->Nat ->Option (List Lf×Nat)
 | 0,acc,x=>Uq (acc,x)
 | k+1,acc,x=>(Qc4 f n x 40).bind fun a=>if a.2<n then(Qot f n rec p (a.1,f a.2) acc (a.2+1)).bind fun b=>QiY rec p k b.1 b.2 else Up
noncomputable def QdD:Nat ->List ByteArray ->List Lf ->Nat ->Option (List Lf×Nat)
 | 0,_,_,_=>Up
 | d+1,p,acc,x=>(rd f n x 4000).bind fun a=>if 8<=p.length then Up else QiY f n (QdD d) p a.1 acc a.2
end
theorem Qk1(hf:Byt f){x:Nat}{m m':Int}(h:m<=m'){a:Nat×Nat}(e:rd f n x m=Uq a):rd f n x m'=Uq a:=by
 obtain⟨V,x'⟩:=a;obtain⟨j,q,k⟩:=(Qav hf).1 e;exact(Qav hf).2 ⟨j,oM,k⟩
section
variable {f : Nat -> Int} {n : Nat} {K : Int -> Int -> Bool}
theorem Qab {α β:Type}{o:Option α}{g:α ->Option β}{b:β}:o.bind g=Uq b↔∃a,o=Uq a/\ g a=Uq b:=by cases o<;>simp
theorem QnO (hf:Byt f){kind:Int}(hk:kind=1 \/kind=2){p:List ByteArray}{before:Dt}{acc:List Lf}{x:Nat}{a:Lf×Nat}(h:Qe3 f n K kind p before acc x=Uq a):QiG f n (decide (kind=2)) p x=Uq a:=by
 unfold Qe3 at h;obtain⟨r,k,h⟩:=Qab.1 h;obtain⟨q,j,h⟩:=Qab.1 h;unfold QiG;rw [Qk1 hf oD k];simp only [YB];rw [j];simp only [YB];split at h
 ·rcases hk with rfl|rfl
  ·simpa using h
  ·simpa using h
 ·cases h
theorem Qka (hf:Byt f){kind:Int}(hk:kind=1 \/kind=2){p:List ByteArray}:∀(k:Nat) {before:Dt} {acc:List Lf} {x:Nat} {a:List Lf×Nat},Qhx f n K kind p k before acc x=Uq a ->QnP f n (decide (kind=2)) p k acc x=Uq a
 | 0,_,_,_,_,h=>h
 | k+1,_,_,_,_,h=>by
  unfold Qhx at h;obtain⟨b,j,h⟩:=Qab.1 h;unfold QnP;rw [QnO hf hk j];exact Qka hf hk k h
theorem QnN (hf:Byt f){r r':List ByteArray ->List Lf ->Nat ->Option (List Lf×Nat)}(hr:∀p acc x a,r p acc x=Uq a ->r' p acc x=Uq a){p:List ByteArray}{y:Ky}{acc:List Lf}{x:Nat}{a:List Lf×Nat}(h:Qik f n K r p y acc x=Uq a):Qot f n r' p y acc x=Uq a:=by
 unfold Qik at h;unfold Qot;split at h
 ·rename_i h3;rw [if_pos h3];exact hr _ _ _ _ h
 ·rename_i h3;rw [if_neg h3];split at h
  ·rename_i h12;rw [if_pos h12];obtain⟨b,j,h⟩:=Qab.1 h;rw [j];simp only [YB];split at h
   ·cases h
   ·exact Qka hf h12 _ h
  ·cases h
theorem QjZ (hf:Byt f){r r':List ByteArray ->List Lf ->Nat ->Option (List Lf×Nat)}(hr:∀p acc x a,r p acc x=Uq a ->r' p acc x=Uq a){p:List ByteArray}:∀(k:Nat) {before:Ky} {acc:List Lf} {x:Nat} {a:List Lf×Nat},Qkx f n K r p k before acc x=Uq a ->QiY f n r' p k acc x=Uq a
 | 0,_,_,_,_,h=>h
 | k+1,_,_,_,_,h=>by
  unfold Qkx at h;obtain⟨b,j,h⟩:=Qab.1 h;obtain⟨c,m,h⟩:=Qab.1 h;unfold Qgd at j;obtain⟨t,q,j⟩:=Qab.1 j;split at j
  ·rename_i hy;simp only [Option.some.injEq] at j;subst j;unfold QiY;rw [q];simp only [YB];rw [if_pos (QcJ.1 hy).2.1,QnN hf hr m];exact QjZ hf hr k h
  ·cases j
theorem Qkb (hf:Byt f):∀(d:Nat) {p:List ByteArray} {acc:List Lf} {x:Nat} {a:List Lf×Nat},Qc1 f n K d p acc x=Uq a ->QdD f n d p acc x=Uq a
 | 0,_,_,_,_,h=>by cases h
 | d+1,p,acc,x,a,h=>by
  unfold Qc1 at h;obtain⟨b,j,h⟩:=Qab.1 h;unfold QdD;rw [Qk1 hf oD j];simp only [YB];split at h
  ·rename_i h0;split at h
   ·rename_i hp;rw [if_neg oM,h0];exact h
   ·cases h
  ·split at h
   ·cases h
   ·rename_i h8;rw [if_neg h8];exact QjZ hf (fun p' acc' x' a' h'=>Qkb hf d h') _ h
end
variable {EX : Nat -> Option Value}
def TxP (EX:Nat ->Option Value)(f:Nat ->Int)(n x:Nat)(most:Int)(cb:Nat)(a:Option Us)(c:Nat)(w:Ur)(e:Ending)(w':Ur):Prop:=w.grownBy w' (Uq cb)/\
 ((∃s x',Qc4 f n x most=Uq (s,x')/\ e=Ui (Ul #[Um s,.nilIface])/\ Cur EX w' cb a n c ((x':Nat):Int)) \/
  (Qc4 f n x most=Up/\∃(t:TypeId) (v:Value) (y:Int),e=Ui (Ul #[Um ⟨#[]⟩,.iface t v])/\ Cur EX w' cb a n c y))
def TlP (EX:Nat ->Option Value)(f:Nat ->Int)(n x:Nat)(most:Int)(cb:Nat)(a:Option Us)(c:Nat)(w:Ur)(e:Ending)(w':Ur):Prop:=w.grownBy w' (Uq cb)/\
 ((∃V q:Nat,Qc4 f n x most=Uq (Qby f q V,q+V)/\ q+V<=n/\ 0<n/\ e=Ui (Ul #[Ud (V:Int),.nilIface])/\ Cur EX w' cb a n c (q:Int)) \/
  (Qc4 f n x most=Up/\∃(t:TypeId) (v:Value) (y:Int),e=Ui (Ul #[Ud 0,.iface t v])/\ Cur EX w' cb a n c y))
theorem Qoc(hf:Byt f){x:Nat}{q:Nat}(h:rd f n x most=Uq (V,q)):q<=n/\ 0<q:=by
 obtain⟨_,_,_,j,k⟩:=(Qav hf).1 h;have:0<(uvF 9 V).length:=by
  cases e:uvF 9 V with
  | nil=>unfold uvF at e;split at e<;>cases e
  | cons a l=>simp
 omega
theorem QlS (cb B:Nat)(a:Option Us)(n c x:Nat)(most:Int)(f:Nat ->Int)(aT aS aL aE:Us)(w:Ur)(hn:n<=1048576)(hf:Byt f)(h:Seg w a n f)(hcur:Cur EX w cb a n c (x:Int))(hE:QcL w B aT aS aL aE)(hBc:B<=cb)(hne:∀y,a=Uq y ->y.block≠cb)(hm0:0<=most)(hm1:most<=1000000):
  Cl 223 #[Uk (Uc cb),Ud most] w fun e w'=>TlP EX f n x most cb a c w e w':=by
 have O:=hid (uvC cb B a n c (x:Int) f aT aS aL aE w hn hf hcur h hne hE hBc);have s:=hid hE;have Q:=hid hf;have X:=hcur.lt;have L:B<=w.heap.size:=oM;clear h hcur hE hf;go_enter func223,ntmps223;go_wp2_with fail;refine O.mono ?_;rintro e w1 ⟨b,Y⟩;have i:=hid b;have A:=hid (s.bw ((Below.refl B w).grown b oM (fun k hk=>oI hk)));clear b O s;rcases Y with ⟨V,q,N,z,rfl,o⟩|⟨z,t,v,y,rfl,o⟩
 ·have p:=z most;rw [Qa5] at p;have u:=hid p;have D:q<=n/\ 0<q:=by
   have:=z 18446744073709551616;rw [Qa5,if_pos oM] at this;exact Qoc Q this
  clear z p;have g:=hid o;obtain⟨k0,Z,G,H⟩:=o;clear H;obtain⟨M,rfl⟩:∃M:Nat,most=(M:Int):=⟨most.toNat,oM⟩;have R:IntKind.u64.wrap (M:Int)=(M:Int):=by rw [Yt];omega
  have C:decide ((M:Int)<0)=false:=oP;by_cases J:M<V
  ·have m:Hid (Qc4 f n x (M:Int)=Up):=hid (by unfold Qc4;rw [u.out,if_neg oM];rfl);obtain⟨W,I⟩:=A.x0;clear k0 Z G u;go_wp2_with fail;go_quiet (fail);go_wp2_with fail;go_ret2;exact⟨i.andThen (Qa2 _ _ _) (fun j hj=> .inr hj),.inr ⟨m,_,_,_,rfl,g⟩⟩
  obtain⟨r,F⟩:∃r:Nat,(r:Int)=(n:Int) - (q:Int):=⟨n - q,oM⟩;have S:IntKind.u64.wrap (IntKind.i64.wrap ((n:Int) - (q:Int)))=(r:Int):=by rw [Qa3 _ oM oM,Yt];omega
  have T:IntKind.u64.wrap ((n:Int) - (q:Int))=(r:Int):=by rw [Yt];omega
  by_cases K:r<V
  ·have m:Hid (Qc4 f n x (M:Int)=Up):=hid (by
    unfold Qc4;rw [u.out,if_pos oM];show (if q+V<=n then Uq (Qby f q V,q+V) else Up)=Up;rw [if_neg oM])
   have U:=A.gE;clear u;go_wp2_with fail;go_quiet (fail);go_wp2_with fail;go_quiet (fail);go_wp2_with fail;go_ret2;simp only [World.drewN_drewN];exact⟨i.andThen (Qa2 _ _ _) (fun j hj=> .inr hj),.inr ⟨m,_,_,_,rfl,g⟩⟩
  have m:Hid (Qc4 f n x (M:Int)=Uq (Qby f q V,q+V)):=hid (by
   unfold Qc4;rw [u.out,if_pos oM];show (if q+V<=n then Uq (Qby f q V,q+V) else Up)=_;rw [if_pos oM])
  have P:IntKind.i64.wrap (V:Int)=(V:Int):=Qa3 _ oM oM;have E:Hid (q+V<=n/\ 0<n):=hid ⟨oM,oM⟩;clear u;go_wp2_with fail;go_quiet (fail);go_wp2_with fail;go_ret2;exact⟨i.andThen (Qa2 _ _ _) (fun j hj=> .inr hj),.inl ⟨V,q,m,E.1,E.2,rfl,g⟩⟩
 ·have m:Hid (Qc4 f n x most=Up):=hid (by unfold Qc4;rw [<- Qa5,z most];rfl);have g:=hid o;clear z o;go_wp2_with fail;go_ret2;exact⟨i,.inr ⟨m,_,_,_,rfl,g⟩⟩
theorem QpU (cb B:Nat)(a:Option Us)(n c x:Nat)(most:Int)(f:Nat ->Int)(aT aS aL aE:Us)(w:Ur)(hn:n<=1048576)(hnc:n<=c)(hcc:c<=9223372036854775807)(hf:Byt f)(h:Seg w a n f)(hcur:Cur EX w cb a n c (x:Int))(hE:QcL w B aT aS aL aE)(hBc:B<=cb)(hne:∀y,a=Uq y ->y.block≠cb)(hm0:0<=most)(hm1:most<=1000000):
  Cl 192 #[Uk (Uc cb),Ud most] w fun e w'=>TxP EX f n x most cb a c w e w':=by
 have O:=hid (QlS cb B a n c x most f aT aS aL aE w hn hf h hcur hE hBc hne hm0 hm1);have S:=hcur.lt;have L:=hid h;have K:=hid hf;obtain⟨k0,I,J,p⟩:=hcur;clear h hE hf p;go_enter func192,ntmps192;go_wp2_with fail;refine O.mono ?_;rintro e w1 ⟨z,X⟩;have E:=hid z;have z1:=z.size;clear z O k0 I J;have Q:=fun(o:Obj)=>zO w1 o;rcases X with ⟨V,q,Y,He,Hc,rfl,r⟩|⟨Z,t,v,y,rfl,r⟩;rotate_left
 ·have N:=hid Z;have u:=hid r;clear Z r;go_wp2_with fail;go_ret2;exact⟨Qag E (Q _),.inr ⟨N,_,_,_,rfl,u.bw (Q _) u.lt⟩⟩
 ·have A:=hid Y;clear Y;have u:=hid r;obtain⟨k0,I,J,p⟩:=r;have Hh:IntKind.i64.wrap (V:Int)=(V:Int):=Qa3 _ oM oM;have Hi:IntKind.i64.wrap ((q:Int)+(V:Int))=(q:Int)+(V:Int):=Qa3 _ oM oM;obtain⟨W,m⟩:=zE (w1.setCell (Ua cb 1) (Ud ((q:Int)+(V:Int))));rcases L.out with h|⟨b,off,rfl,C,G⟩
  ·omega
  have D:=hne _ rfl;have U:Cur EX W cb (Uq (Ua b off)) n c ((q:Int)+(V:Int)):=m▸u.set _;have s:=hid U;obtain⟨j0,j1,j2,P⟩:=U;have g:=hid (show w.grownBy W (Uq cb) from by rw [<- m];exact Qaf E (Qeg (Qbo _ _) _));have H:∀i,i<V ->W.cell? (Ua b (off+q+i))=Uq (Ug .u8 (f (q+i))):=fun i hi=>by
   rw [UB (g.block b C (by simp;exact D)),Uy];exact G (q+i) oM
  have F:∀k cap,(convert 30 9 (Uf (Uq (Ua b (off+q))) V cap)).run prog (W.drewN k)=.ok (Um (Qby f q V)) (W.drewN k):=fun k cap=>Qdj K (fun i hi=>H i hi);clear G H;have Hd:(0:Int)<=(q:Int):=UZ _;have Hf:(q:Int)<=(q:Int)+(V:Int):=oM;have Hg:(q:Int)+(V:Int)<=(c:Int):=oM;clear p P;have M:Hid (((q+V:Nat):Int)=(q:Int)+(V:Int)):=hid (by push_cast;rfl);by_cases T:q<c
  ·go_wp2_with fail;try rw [m]
   clear m;go_quiet (fail);go_wp2_with fail;go_ret2;exact⟨g.andThen (Qa2 _ _ _) (fun j hj=> .inr hj),.inl ⟨_,_,A,rfl,by rw [M.out];exact s⟩⟩
  ·have R:V<=0:=oM;have Ha:c<=q:=oM;have Hb:∀k ad cap,(convert 30 9 (Uf (Uq ad) V cap)).run prog (W.drewN k)=.ok (Um (Qby f q V)) (W.drewN k):=fun k ad cap=>by
    obtain rfl:V=0:=oM;exact QeF (w:=W.drewN k) ad q cap f
   clear F;go_wp2_with fail;try rw [m]
   clear m;go_quiet (fail);go_wp2_with fail;go_ret2;exact⟨g.andThen (Qa2 _ _ _) (fun j hj=> .inr hj),.inl ⟨_,_,A,rfl,by rw [M.out];exact s⟩⟩
variable {EX : Nat -> Option Value}
theorem Seg.grown(h:Seg w a n f)(g:w.grownBy w1 (Uq cb))(hab:∀y,a=Uq y ->y.block≠cb):Seg w1 a n f:=by
 rcases h with h|⟨b,off,rfl,j,k⟩
 ·exact .inl h
 ·refine .inr ⟨b,off,rfl,Ut j g.size,fun i hi=> ?_⟩;rw [UB (g.block b j (by have:=hab _ rfl;simpa using this))];exact k i hi
theorem QcL.grown(h:QcL w B aT aS aL aE)(g:w.grownBy w1 (Uq cb))(hBc:B<=cb)(hcl:cb<w.heap.size):QcL w1 B aT aS aL aE:=
 h.bw ((Below.refl B w).grown g oM (fun k hk=>oI hk))
noncomputable def Qe5 (f:Nat ->Int)(n:Nat)(least:Int)(x:Nat):Option ((Int×Int)×Nat):=
 (rd f n x (1000000000 - least)).bind fun a=>(rd f n a.2 (1000000000 - (least+(a.1:Int)))).bind fun b=>Uq ((least+(a.1:Int),least+(a.1:Int)+(b.1:Int)),b.2)
theorem Qck (f:Nat ->Int)(n k:Nat)(least:Int)(x:Nat):Qaz f n (k+1) least x=(Qe5 f n least x).bind fun a=>(Qaz f n k (a.1.2+2) a.2).bind fun b=>Uq (a.1::b.1,b.2):=by
 unfold Qe5;rw [Qaz];cases h1:rd f n x (1000000000 - least) with
 | none=>rfl
 | some a=>
  simp only [YA,YB];cases h2:rd f n a.2 (1000000000 - (least+(a.1:Int))) with
  | none=>rfl
  | some b=>rfl
theorem Qor{u0 u1:Value}(v0 v1:Value)(g:w.grownBy w2 (Uq cb))(cu:Cur EX w2 cb a n c y)(hcl:cb<w.heap.size)
  (k0:w2.cell? (Ub w.heap.size)=Uq u0) (k1:w2.cell? (Ua w.heap.size 1)=Uq u1):
  ∃Z,Z=(w2.setCell (Ub w.heap.size) v0).setCell (Ua w.heap.size 1) v1/\ Z.cell? (Ub w.heap.size)=Uq v0/\ Z.cell? (Ua w.heap.size 1)=Uq v1/\ w.grownBy Z (Uq cb)/\ Cur EX Z cb a n c y:=by
 refine⟨_,rfl,?_,?_,?_,?_,?_,?_⟩
 ·rw [UI _ _ _ _ oP];exact UH _ _ _ k0
 ·have j:(w2.setCell (Ub w.heap.size) v0).cell? (Ua w.heap.size 1)=Uq u1:=by
   rw [UI _ _ _ _ oP];exact k1
  exact UH _ _ _ j
 ·refine⟨g.os,g.tape,g.output,?_,fun k hk hne=> ?_⟩
  ·have:=g.size;simpa [UC] using this
  ·exact((zH _ _ _ _ (fun e=>by first|omega|(simp at e;omega))).trans (zH _ _ _ _ (fun e=>by first|omega|(simp at e;omega)))).trans (g.block k hk hne)
 ·rw [UF _ _ _ _ oS,UF _ _ _ _ oS];exact cu.1
 ·rw [UF _ _ _ _ oS,UF _ _ _ _ oS];exact cu.2.1
 ·rw [UG,UG];exact⟨cu.2.2.1,fun i hi=>by rw [UF _ _ _ _ oS,UF _ _ _ _ oS,UG,UG];exact cu.2.2.2 i hi⟩
theorem QqH (cb B:Nat)(a:Option Us)(n c x:Nat)(least:Int)(f:Nat ->Int)(aT aS aL aE:Us)(w:Ur)(hn:n<=1048576)(hf:Byt f)(hcur:Cur EX w cb a n c (x:Int))(hs:Seg w a n f)(hab:∀y,a=Uq y ->y.block≠cb)(hE:QcL w B aT aS aL aE)(hBc:B<=cb)
  (hl0:1<=least) (hl1:least<=1000000002):
  Cl 222 #[Uk (Uc cb),Ud least] w fun e w'=>w.grownBy w' (Uq cb)/\
   ((∃(s t:Int) (x':Nat),Qe5 f n least x=Uq ((s,t),x')/\ least<=s/\ s<=t/\ t<=1000000000/\ e=Ui (Ul #[Uo #[Ud s,Ud t],.nilIface])/\ Cur EX w' cb a n c (x':Int)) \/
    (Qe5 f n least x=Up/\∃(t:TypeId) (v:Value) (y:Int),e=Ui (Ul #[Uo #[Ud 0,Ud 0],.iface t v])/\ Cur EX w' cb a n c y)):=by
 have o:=hcur.lt;obtain⟨W,j⟩:=zE (w.alloc (Uj #[Ud 0,Ud 0] 255));have C:Bl w W:=j▸zO _ _;have zW:W.heap.size=w.heap.size+1:=j▸oP;have h:w.grownBy W (Uq cb):=Qag (Qbo w (Uq cb)) C;have G:Hid (∀w1,W.grownBy w1 (Uq cb) ->w1.cell? (Ub w.heap.size)=Uq (Ud 0)/\ w1.cell? (Ua w.heap.size 1)=Uq (Ud 0)/\ w1.frozen? (Ub w.heap.size)=false/\ w1.frozen? (Ua w.heap.size 1)=false):=by
  intro w1 g;have Y:=g.block w.heap.size oM oS;refine⟨?_,?_,?_,?_⟩
  ·rw [UB Y,<- j];simp
  ·rw [UB Y,<- j];simp
  ·have e:w1.frozen? (Ub w.heap.size)=W.frozen? (Ub w.heap.size):=(by unfold Yq;rw [Y]);rw [e,<- j];simp
  ·have e:w1.frozen? (Ua w.heap.size 1)=W.frozen? (Ua w.heap.size 1):=(by unfold Yq;rw [Y]);rw [e,<- j];simp
 have T:cb<W.heap.size:=oM;have L:=hid (QbP cb B a n c x (1000000000 - least) f aT aS aL aE W hn hf (hcur.bw C o) (hs.grown h hab) hab (hE.grown h hBc o) hBc oM oM);have I:=hid (hE.grown h hBc o);have P:=hid (hs.grown h hab);have X:=hid h;have R:IntKind.i64.wrap (1000000000 - least)=1000000000 - least:=Qa3 _ oM oM;clear hE hcur hs h C;go_enter func222,ntmps222;go_wp2_with fail;try rw [R]
 try rw [j]
 clear j;refine L.mono ?_;rintro e w1 ⟨m,⟨V,x1,q,hV,rfl,p⟩|⟨q,t,v,y,rfl,p⟩⟩
 ·rw [Qa5] at q;have N:=hid (QbP cb B a n c x1 (1000000000 - (least+(V:Int))) f aT aS aL aE w1 hn hf p (P.grown m hab) hab (I.grown m hBc T) hBc oM oM);have u:=hid m;have U:=hid q;have e1:IntKind.i64.wrap (least+(V:Int))=least+(V:Int):=Qa3 _ oM oM;have S:IntKind.i64.wrap (1000000000 - (least+(V:Int)))=1000000000 - (least+(V:Int)):=Qa3 _ oM oM;clear m q p L I;go_wp2_with fail;try rw [S]
  refine N.mono ?_;rintro e w2 ⟨z,⟨M,x2,r,hM,rfl,A⟩|⟨r,t,v,y,rfl,A⟩⟩
  ·rw [Qa5] at r;obtain⟨k0,E,z0,D⟩:=G _ (Qaf u z);have J:=hid (Qaf X (Qaf u z));have K:=hid r;have H:=hid A;have e3:IntKind.i64.wrap (least+(V:Int)+(M:Int))=least+(V:Int)+(M:Int):=Qa3 _ oM oM;clear z r A N;go_wp2_with fail;obtain⟨Z,k,O,Q,b,i⟩:=Qor (Ud (least+(V:Int))) (Ud (least+(V:Int)+(M:Int))) J H o k0 E;rw [<- k];clear k;refine zF (v:=Ul #[Uo #[Ud (least+(V:Int)),Ud (least+(V:Int)+(M:Int))],.nilIface]) (by simp [results,results222,go_sem,O,Q]) ⟨b,.inl ⟨least+(V:Int),least+(V:Int)+(M:Int),x2,?_,oM,oM,oM,rfl,i⟩⟩;unfold Qe5;rw [U.out];simp only [YB];rw [K.out];rfl
  ·rw [Qa5] at r;obtain⟨k0,E,z0,D⟩:=G _ (Qaf u z);have J:=hid (Qaf X (Qaf u z));have K:=hid r;have H:=hid A;clear z r A N;go_wp2_with fail;obtain⟨Z,k,O,Q,b,i⟩:=Qor (Ud 0) (Ud 0) J H o k0 E;rw [<- k];clear k;refine zF (v:=Ul #[Uo #[Ud 0,Ud 0],.iface t v]) (by simp [results,results222,go_sem,O,Q]) ⟨b,.inr ⟨?_,_,_,_,rfl,i⟩⟩;unfold Qe5;rw [U.out];simp only [YB];rw [K.out];rfl
 ·rw [Qa5] at q;obtain⟨k0,E,z0,D⟩:=G _ m;have u:=hid (Qaf X m);have U:=hid q;have F:=hid p;clear m q p L I;go_wp2_with fail;obtain⟨Z,k,O,Q,b,i⟩:=Qor (Ud 0) (Ud 0) u F o k0 E;rw [<- k];clear k;refine zF (v:=Ul #[Uo #[Ud 0,Ud 0],.iface t v]) (by simp [results,results222,go_sem,O,Q]) ⟨b,.inr ⟨?_,_,_,_,rfl,i⟩⟩;unfold Qe5;rw [U.out];rfl
open Go.Maps
theorem Gr.drew{b0 b:Value}(h:Gr w w1 b0 b):Gr w w1.drew b0 b:=h.trans ⟨⟨rfl,rfl,rfl,Uu _,fun _ _ _=>rfl⟩,.inl rfl⟩
def SR (w:Ur)(B:Nat)(v:Value)(l:List (Int×Int)):Prop:=w.ownsRow B 255 2 v l.length (Qan l)
theorem Qbl (l:List (Int×Int)):(Qan l).length=l.length*2:=by
 induction l with
 | nil=>rfl
 | cons a l ih=>simp [Qan] at*;omega
theorem Qnk (w:Ur)(x y:Value)(t:TypeId):∀j u,[x,y][j]? =Uq u ->(w.alloc (Uj #[x,y] t)).cell? (((Ub w.heap.size):Us).add j)=Uq u:=by
 intro j u k;match j,k with
 | 0,k=>simp at k;subst k;simp [Addr.add]
 | 1,k=>simp at k;subst k;simp [Addr.add]
theorem QaG (w:Ur)(p:Us)(u:Value):w.grownBy (w.setCell p u) (Uq p.block):=
 ⟨rfl,rfl,rfl,by simp [UC],fun k hk hne=>zH _ _ _ _ (fun e=>hne (by rw [e]))⟩
structure QcM (w:Ur)(bm n:Nat)(D:DataW Value)(G:Int ->Value)(L:Int ->List (Int×Int)):Prop where
 own:w.ownsMap prog 3 Qc3 bm n D
 at':∀r,D.atKey (kI r) (.held Ue)=.held (G r)
 has':∀r,Maps.has D (kI r)= !(L r).isEmpty
 rows:∀r,w.ownsRow 0 255 2 (G r) (L r).length (Qan (L r))
theorem QdR{s:Nat}(h:w.ownsRow B e s v n xs):w.ownsRow 0 e s v n xs:=by
 obtain⟨k,m⟩:=h;refine⟨k,m.imp id ?_⟩;rintro⟨g,cap,j,e,_,r⟩;exact⟨g,cap,j,e,Uv _,r⟩
theorem QfN{s:Nat}{D:DataW Value}(h:w.ownsRow B e s v m xs)(hm:w.ownsMap prog 3 Qc3 bm n D):v.ownBlock=Up \/v.ownBlock≠Uq bm:=by
 obtain⟨_,k⟩:=h;rcases k with ⟨rfl,_⟩|⟨g,cap,u,rfl,_,j,_⟩
 ·exact .inl rfl
 ·refine .inr (fun e=> ?_);obtain⟨y,r,q,_⟩:=hm;have e:g=bm:=by simpa [Value.ownBlock] using e
  rw [e,q] at j;cases j
theorem Qdf{s:Nat}(h:w.ownsRow B e s v n xs)(hb:Bl w w1):w1.ownsRow B e s v n xs:=
 Qbp h hb (fun k hk=>(h.lt k hk).2)
theorem Qdg(h:w.ownsRow B 255 2 v l.length (Qan l)):
  ∃a c,v=Uf a l.length c/\ SS w a l.length (sF l) (sT l)/\ l.length<=c/\ c<=9223372036854775807:=by
 rcases h.2 with ⟨e,j⟩|⟨g,cap,q,e,r,_,m,k,_⟩
 ·exact⟨Up,0,by rw [e,j],.inl j,oM,oM⟩
 ·exact⟨_,cap,e,by rw [e] at h;exact QkD h rfl,m,by unfold maxLen at k;omega⟩
theorem Qbk{size:Nat}(h:w.ownsRow B e size v n xs):∃y m c,v=Uf y m c:=by
 rcases h.2 with ⟨rfl,_⟩|⟨g,cap,j,rfl,_⟩
 ·exact⟨_,_,_,rfl⟩
 ·exact⟨_,_,_,rfl⟩
theorem QcM.gr{D:DataW Value}{G:Int ->Value}(h:QcM w bm n D G L){row:Option Nat}(hg:w.grownBy w1 row)(hr:Uq bm≠row)(hro:∀r g,(G r).ownBlock=Uq g ->Uq g≠row):QcM w1 bm n D G L:=
 ⟨h.own.kept hg hr,h.at',h.has',fun r=>(h.rows r).kept hg (by
  cases e:(G r).ownBlock with
  | none=>exact .inl rfl
  | some g=>exact .inr (hro r g e))⟩
theorem QcM.bw{D:DataW Value}{G:Int ->Value}(h:QcM w bm n D G L)(hb:Bl w w1):QcM w1 bm n D G L:=
 h.gr (row:=Up) ⟨hb.os,hb.tape,hb.output,hb.size,fun k hk _=>hb.block k hk⟩ oP oP
variable {EX : Nat -> Option Value}
noncomputable def Qip (f:Nat ->Int)(n:Nat)(left:Int)(x:Nat):Option (List (Int×Int)×Nat):=
 (rd f n x left).bind fun b=>if b.1=0 then Up else Qaz f n b.1 1 b.2
theorem SR.grown(h:SR w B v l)(g:w.grownBy w1 (Uq cb))(hB:cb<B):SR w1 B v l:=by
 refine World.ownsRow.kept h g ?_;cases e:v.ownBlock with
 | none=>exact .inl rfl
 | some k=>exact .inr (fun e2=>by have:=(World.ownsRow.lt h k e).1;injection e2 with e2;omega)
theorem QpN (cb B:Nat)(a:Option Us)(n c x:Nat)(left:Int)(f:Nat ->Int)(aT aS aL aE:Us)(w:Ur)(hn:n<=1048576)(hf:Byt f)(hcur:Cur EX w cb a n c (x:Int))(hs:Seg w a n f)(hab:∀y,a=Uq y ->y.block≠cb)(hE:QcL w B aT aS aL aE)(hBc:B<=cb)
  (hl0: -1000<=left) (Hi:left<=1000):
  Cl 189 #[Uk (Uc cb),Ud left] w fun e w'=>w.grownBy w' (Uq cb)/\
   ((∃(l:List (Int×Int)) (x':Nat) (v:Value),Qip f n left x=Uq (l,x')/\ e=Ui (Ul #[v,.nilIface])/\ SR w' w.heap.size v l/\ Cur EX w' cb a n c (x':Int)) \/
    (Qip f n left x=Up/\∃(t:TypeId) (v:Value) (y:Int),e=Ui (Ul #[Ue,.iface t v])/\ Cur EX w' cb a n c y)):=by
 have Hh:=hcur.lt;obtain⟨i0,hi,Hq,Hr,Hs⟩:=info_parts Tryz.infoSpan;have N:=hid (QbP cb B a n c x left f aT aS aL aE w hn hf hcur hs hab hE hBc oM oM);have K:=hid hE;have HS:=hid hs;clear hE hcur hs;go_enter func189,ntmps189;go_wp2_with fail;refine N.mono ?_;rintro e w1 ⟨M,⟨V,I,r,hV,rfl,A⟩|⟨r,t,v,y,rfl,A⟩⟩
 ·rw [Qa5] at r;have L:=hid M;have Y:=hid A;by_cases h0:V=0
  ·subst h0;have i:Hid (Qip f n left x=Up):=(by unfold Qip;rw [r];exact hid rfl);have Hg:=K.bw ((Below.refl B w).grown M oM (fun k hk=>oI hk));obtain⟨vN,Ht⟩:=Hg.gN;clear M r A Hg N K;go_wp2_with fail;go_quiet (fail);go_wp2_with fail;go_ret2;exact⟨Qaf L (Qa2 _ _ _),.inr ⟨i,_,_,_,rfl,Y.bw (QaX zI _) Y.lt⟩⟩
  ·have i:Hid (Qip f n left x=Qaz f n V 1 I):=(by unfold Qip;rw [r];exact hid (if_neg h0));have d0:((V:Int)==0)=false:=oS;clear M r A N;go_wp2_with fail;go_loopw [8,9,26] (fun sv lv iv wr=>∃(k y:Nat) (l:List (Int×Int)) (U:Int),k<=V/\ iv=Ud (k:Int)/\ lv=Ud U/\ 1<=U/\ U<=1000000002/\ l.length=k/\ Hid (SR wr w.heap.size sv l)/\ Hid (Cur EX wr cb a n c (y:Int))/\ Hid (w.grownBy wr (Uq cb))/\
    Hid (Qaz f n V 1 I=(Qaz f n (V - k) U y).bind fun b=>Uq (l++b.1,b.2))) (fun _ _ iv _=>V - (intOf iv).toNat)
   case atStart=>exact⟨0,I,[],1,Uv _,rfl,rfl,oM,oM,rfl,hid (Yr _ _ _ _),Y,L,hid (by cases h:Qaz f n (V - 0) 1 I<;>simp_all)⟩
   case round=>
    obtain⟨k,y,l,U,hk,rfl,rfl,Hi,Hn,Ho,D,G,z,Q⟩:=hrel;have zr:=z.size;by_cases Hp:k<V
    ·obtain⟨m,C⟩:∃m,V - k=m+1:=⟨V - k - 1,oM⟩;have R:=hid (QqH cb B a n c y U f aT aS aL aE wr hn hf G (HS.grown z hab) hab (K.grown z hBc Hh) hBc Hi Hn);obtain⟨c0,c1,c2⟩:=G.out;go_wp2_with fail;refine R.mono ?_;rintro e w2 ⟨O,⟨s,t,F,H,Hu,Hv,Hw,rfl,E⟩|⟨H,t,v,y2,rfl,E⟩⟩
     ·have W:=D.grown O Hh;have S:Hid (∀g,u8.ownBlock=Uq g ->w.heap.size<=g/\ g<w2.heap.size):=hid fun g hg=>World.ownsRow.lt W g hg;obtain⟨q,o⟩:=zE (w2.alloc (Uj #[Ud s,Ud t] 255));have T:Bl w2 q:=o▸zO _ _;have Hf:Hid (q.heap.size=w2.heap.size+1):=o▸hid oP;have r0:q.cell? (Ub w2.heap.size)=Uq (Ud s):=o▸oP;have r1:q.cell? (Ua w2.heap.size 1)=Uq (Ud t):=o▸oP;have Hb:Hid (SR q w.heap.size u8 l):=o▸World.ownsRow.alloc W _;have P:=hid (E.bw T E.lt);have He:=hid (Qag (Qaf z O) T);have Z:Hid (Qaz f n V 1 I=(Qaz f n (V - (k+1)) (t+2) F).bind fun b=>Uq (l++[(s,t)]++b.1,b.2)):=by
       refine hid ?_;rw [Q.out,C,Qck,H,show V - (k+1)=m from by omega];simp only [YB];cases Qaz f n m (t+2) F with
       | none=>rfl
       | some b=>simp
      have z2:=O.size;have zz:w.heap.size<=w2.heap.size:=oM;have e3:IntKind.i64.wrap (t+2)=t+2:=Qa3 _ oM oM;subst Ho;clear O H E R c0 c1 c2 D G z Q T C W;go_wp2_with (at_builtin;go_loud ((try rw [o]);refine Qam rfl _ _ 238 rfl w.heap.size 255 i0 _ 2 16 underlying238 hi Hq Hr Hs rfl oD _ _ _ rfl (World.ownsRow.alloc Hb _) (Ub q.heap.size) 1 1 [Ud s,Ud t] rfl rfl ?c1 ?c2 ?c3 ?c4 ?c5 ?_));case c1=>exact Qnk _ _ _ _
      case c2=>intro u hu;simp at hu;rcases hu with rfl|rfl<;>rfl
      case c3=>unfold maxLen;omega
      case c4=>omega
      case c5=>have:=Hf.out;simp;omega
      intro v4 w4 Ha X Hc;have z3:=Hf.out;have J:Hid (Bl q (q.alloc (Uj #[Ud s,Ud t] 255))):=hid (zO _ _);have n1:Uq w2.heap.size≠u8.ownBlock:=fun e=>by have:=(S _ e.symm).2;omega
      have n2:Uq cb≠u8.ownBlock:=fun e=>by have:=(S _ e.symm).1;omega
      have q1:=X.cell ((J.cell (p:=(Ua w2.heap.size 1)) (show w2.heap.size<q.heap.size by omega)).trans r1) n1;have Hj:Hid (Cur EX w4 cb a n c (F:Int)):=by
       have h:=P.bw J P.lt;have hb:=X.block cb h.lt n2;exact hid (h.at' hb)
      have Hl:Hid (w.grownBy w4 (Uq cb)):=hid ((Qag He J).andThen X (fun j hj=> .inl (S j hj).1));have Hm:Hid (SR w4 w.heap.size v4 (l++[(s,t)])):=by
       unfold SR;rw [Qa6,Vg];exact hid Ha
      clear Ha X Hc r0 r1 o J P He Hb z3;go_wp2_with fail;go_roundw;case rel=>exact⟨l.length+1,F,l++[(s,t)],t+2,Hp,oN,rfl,oM,oM,oP,Hm,Hj,Hl,Z⟩
      case measure=>exact oE
     ·have Z:Hid (Qip f n left x=Up):=by
       refine hid ?_;rw [i.out,Q.out,C,Qck,H];rfl
      have Hk:=hid (Qaf z O);have Hd:=hid E;clear O H E R c0 c1 c2 D G z Q C;go_wp2_with fail;go_ret2;have B2:Bl w2 ((w2.alloc (Uj #[Ud 0,Ud 0] 255)).alloc (Uj #[Um {data:=#[114,117,110]},Ud (y:Int),.iface t v] 216)):=Qak _ _ _;exact⟨Qag Hk B2,.inr ⟨Z,_,_,_,rfl,Hd.bw B2 Hd.lt⟩⟩
    ·obtain rfl:k=V:=oM;have Z:Hid (Qip f n left x=Uq (l,y)):=by
      refine hid ?_;rw [i.out,Q.out,Nat.sub_self];simp [Qaz]
     clear Q;go_wp2_with fail;go_ret2;exact⟨z,.inl ⟨l,y,_,Z,rfl,D,G⟩⟩
 ·rw [Qa5] at r;have i:Hid (Qip f n left x=Up):=by unfold Qip;rw [r];exact hid rfl
  have L:=hid M;have Y:=hid A;clear M r A N K;go_wp2_with fail;go_ret2;exact⟨L,.inr ⟨i,_,_,_,rfl,Y⟩⟩
variable {EX : Nat -> Option Value}
theorem Qe7:∀(k:Nat) (j:Int) (x:Nat) (l:List (Int×Int)) (x':Nat),Qaz f n k j x=Uq (l,x') ->l.length=k:=by
 intro k;induction k with
 | zero=>intro j x l x' h;simp [Qaz] at h;simp [<- h.1]
 | succ k ih=>
  intro j x l x' h;rw [Qck] at h;obtain⟨a,q,h⟩:=Option.bind_eq_some_iff.1 h;obtain⟨b,m,h⟩:=Option.bind_eq_some_iff.1 h;injection h with h;injection h with h3 h4;rw [<- h3];simp [ih _ _ b.1 b.2 m]
noncomputable def QdE (f:Nat ->Int)(n:Nat)(before left:Int)(x:Nat):Option ((Int×List (Int×Int))×Nat):=
 (rd f n x 7).bind fun a=>if (a.1:Int)<=before then Up else(Qip f n left a.2).bind fun b=>Uq (((a.1:Int),b.1),b.2)
theorem Qe4 (f:Nat ->Int)(n k:Nat)(before left:Int)(x:Nat):QaF f n (k+1) before left x=(QdE f n before left x).bind fun a=>(QaF f n k a.1.1 (left - (a.1.2.length:Int)) a.2).bind fun d=>Uq (a.1::d.1,d.2):=by
 unfold QdE Qip;rw [QaF];cases h1:rd f n x 7 with
 | none=>rfl
 | some a=>
  simp only [YB];split
  ·rfl
  ·cases h2:rd f n a.2 left with
   | none=>rfl
   | some b=>
    simp only [YB];split
    ·rfl
    ·cases h3:Qaz f n b.1 1 b.2 with
     | none=>rfl
     | some c=>
      simp only [YB];rw [Qe7 b.1 1 b.2 c.1 c.2 h3]
theorem QlJ (cb B:Nat)(a:Option Us)(n c x:Nat)(before left:Int)(f:Nat ->Int)(aT aS aL aE:Us)(w:Ur)(hn:n<=1048576)(hf:Byt f)(hcur:Cur EX w cb a n c (x:Int))(hs:Seg w a n f)(hab:∀y,a=Uq y ->y.block≠cb)(hE:QcL w B aT aS aL aE)(hBc:B<=cb)
  (hl0: -1000<=left) (hl1:left<=1000):
  Cl 165 #[Uk (Uc cb),Ud before,Ud left] w fun e w'=>w.grownBy w' (Uq cb)/\
   ((∃(r:Int) (l:List (Int×Int)) (x':Nat) (v:Value),QdE f n before left x=Uq ((r,l),x')/\ before<r/\ 0<=r/\ r<=7/\ l≠[]/\ (l.length:Int)<=left/\ e=Ui (Ul #[Ud r,v,.nilIface])/\ SR w' w.heap.size v l/\ Cur EX w' cb a n c (x':Int)) \/
    (QdE f n before left x=Up/\∃(r:Int) (t:TypeId) (v:Value) (y:Int),e=Ui (Ul #[Ud r,Ue,.iface t v])/\ Cur EX w' cb a n c y)):=by
 have F:=hcur.lt;have s:=hid (QbP cb B a n c x 7 f aT aS aL aE w hn hf hcur hs hab hE hBc oM oM);have p:=hid hE;have L:=hid hs;clear hE hcur hs;go_enter func165,ntmps165;go_wp2_with fail;refine s.mono ?_;rintro e w1 ⟨k,⟨V,G,j,D,rfl,m⟩|⟨j,t,v,y,rfl,m⟩⟩
 ·rw [Qa5] at j;have z:=hid k;have i:=hid m;have W:=k.size;have O:=hid (p.grown k hBc F);by_cases E:(V:Int)<=before
  ·have u:Hid (QdE f n before left x=Up):=(by unfold QdE;rw [j];exact hid (if_pos E));obtain⟨T,S⟩:=O.gO;have C:decide ((V:Int)<=before)=true:=oW E;clear k j m s p;go_wp2_with fail;go_quiet (fail);go_wp2_with fail;go_ret3;exact⟨Qaf z (Qa2 _ _ _),.inr ⟨u,_,_,_,_,rfl,i.bw (QaX zI _) i.lt⟩⟩
  ·have u:Hid (QdE f n before left x=(Qip f n left G).bind fun b=>Uq (((V:Int),b.1),b.2)):=(by unfold QdE;rw [j];exact hid (if_neg E));have Y:=hid (QpN cb B a n c G left f aT aS aL aE w1 hn hf m (L.grown k hab) hab O hBc hl0 hl1);have C:decide ((V:Int)<=before)=false:=oW E;clear k j m s p O;go_wp2_with fail;refine Y.mono ?_;rintro e w2 ⟨A,⟨l,K,v,q,rfl,J,h⟩|⟨q,t,v,y,rfl,h⟩⟩
   ·have I:l≠[]/\ (l.length:Int)<=left:=by
     unfold Qip at q;obtain⟨b,Z,o⟩:=Option.bind_eq_some_iff.1 q;split at o
     ·cases o
     ·have:=Qe7 _ _ _ _ _ o;have P:=((Qav hf).1 (show rd f n G left=Uq (b.1,b.2) from Z)).2.1;refine⟨fun e=>by subst e;simp at this;omega,oM⟩
    have U:Hid (QdE f n before left x=Uq (((V:Int),l),K)):=(by rw [u.out,q];exact hid rfl);have Q:=hid (Qaf z A);have M:=hid h;have H:=hid I;have N:Hid (SR w2 w.heap.size v l):=by
     obtain⟨Z,o⟩:=J;refine hid ⟨Z,o.imp id ?_⟩;rintro⟨g,cap,X,e,R,r⟩;exact⟨g,cap,X,e,oM,r⟩
    clear A q h J Y I;go_wp2_with fail;go_ret3;exact⟨Q,.inl ⟨_,l,K,v,U,oM,oM,D,H.1,H.2,rfl,N,M⟩⟩
   ·have U:Hid (QdE f n before left x=Up):=(by rw [u.out,q];exact hid rfl);have Q:=hid (Qaf z A);have M:=hid h;clear A q h Y;go_wp2_with fail;go_ret3;exact⟨Q,.inr ⟨U,_,_,_,_,rfl,M⟩⟩
 ·rw [Qa5] at j;have u:Hid (QdE f n before left x=Up):=by unfold QdE;rw [j];exact hid rfl
  have z:=hid k;have i:=hid m;clear k j m s p;go_wp2_with fail;go_ret3;exact⟨z,.inr ⟨u,_,_,_,_,rfl,i⟩⟩
theorem QcM.step{D:DataW Value}{G:Int ->Value}(h:QcM w bm n D G L)(ho:w.ownsRow 0 255 2 v l.length (Qan l))(hl:l≠[])
  (hD:w1.ownsMap prog 3 Qc3 bm (n+1) (D.put (kI r) (.held v))) (hg:w.grownBy w1 (Uq bm)):
  QcM w1 bm (n+1) (D.put (kI r) (.held v)) (upd G r v) (upd L r l):=by
 refine⟨hD,fun x=> ?_,fun x=> ?_,fun x=> ?_⟩
 ·by_cases e:x=r
  ·subst e;rw [Qap,atKey_put_same h.own.isMap (show WideAt.IsKeyLit (kI x) from trivial)]
  ·rw [Qai G v e,atKey_put_other (QiC e)];exact h.at' x
 ·by_cases e:x=r
  ·subst e;rw [Qap,has_put_same h.own.isMap (show WideAt.IsKeyLit (kI x) from trivial)];cases l with
   | nil=>exact absurd rfl hl
   | cons _ _=>rfl
  ·rw [Qai L _ e,has_put_other (QiC e)];exact h.has' x
 ·by_cases e:x=r
  ·subst e;rw [Qap,Qap];exact ho.kept hg (QfN ho h.own)
  ·rw [Qai G v e,Qai L _ e];exact(h.rows x).kept hg (QfN (h.rows x) h.own)
def lkS (g:List (Int×List (Int×Int)))(r:Int):List (Int×Int):=g.foldl (fun L p=>upd L p.1 p.2) (fun _=>[]) r
theorem Ql4 (g:List (Int×List (Int×Int)))(p:Int×List (Int×Int)):lkS (g++[p])=upd (lkS g) p.1 p.2:=by
 funext r;unfold lkS;rw [List.foldl_append];rfl
theorem Qk3 (cb B bm:Nat)(a:Option Us)(n c:Nat)(x:Int)(f:Nat ->Int)(aT aS aL aE:Us)(w0 w:Ur)(D0:DataW Value)(G0:Int ->Value)(hn:n<=1048576)(hf:Byt f)(hcur:Cur EX w cb a n c x)(hs:Seg w0 a n f)(hab:∀y,a=Uq y ->y.block≠cb)(hE:QcL w0 B aT aS aL aE)(hBc:B<=cb)
  (hc0:cb<w0.heap.size) (hbm:w0.heap.size<=bm) (hg0:w0.grownBy w (Uq cb)) (hG:QcM w bm 0 D0 G0 (fun _=>[])) (hGb:∀r g,(G0 r).ownBlock=Uq g ->w0.heap.size<=g):
  Cl 148 #[Uk (Uc cb),.map (Uq bm)] w fun e w'=>w0.grownBy w' (Uq cb)/\
   ((∃(g:List (Int×List (Int×Int))) (x' nn:Nat) (D:DataW Value) (G:Int ->Value),(rdI f n x 8).bind (fun a=>QaF f n a.1 (-1) 1000 a.2)=Uq (g,x')/\ e=Ui .nilIface/\ QcM w' bm nn D G (lkS g)/\ Cur EX w' cb a n c (x':Int)/\∀r g,(G r).ownBlock=Uq g ->w0.heap.size<=g) \/
    ((rdI f n x 8).bind (fun a=>QaF f n a.1 (-1) 1000 a.2)=Up/\∃(t:TypeId) (v:Value) (y:Int),e=Ui (.iface t v)/\ Cur EX w' cb a n c y)):=by
 have Ht:=hcur.lt;have T:=hid (QbP cb B a n c x 8 f aT aS aL aE w hn hf hcur (hs.grown hg0 hab) hab (hE.grown hg0 hBc hc0) hBc oM oM);have HE:=hid hE;have HS:=hid hs;have P:=hid hg0;have Hh:=hid hG;have Hg:=hid hGb;have Hr:=hG.own.lt;clear hE hcur hs hg0 hG hGb;go_enter func148,ntmps148;go_wp2_with fail;refine T.mono ?_;rintro e w1 ⟨Q,⟨V,I,Y,hV,rfl,E⟩|⟨Y,t,v,y,rfl,E⟩⟩
 ·have K:Hid ((rdI f n x 8).bind (fun a=>QaF f n a.1 (-1) 1000 a.2)=QaF f n V (-1) 1000 I):=by rw [Y];exact hid rfl
  have F:=hid (Qaf P Q);have C:=hid E;have Ha:=hid (Hh.gr (row:=Uq cb) Q (fun e=>oI e) (fun r g hg e=>by injection e with e;have:=Hg r g hg;omega));clear Q Y E T Hh P;go_wp2_with fail;go_loopw [7,8,22] (fun lv bv iv wr=>∃(k y:Nat) (g:List (Int×List (Int×Int))) (u before:Int) (D:DataW Value) (G:Int ->Value),k<=V/\ iv=Ud (k:Int)/\ lv=Ud u/\ bv=Ud before/\ -1<=before/\ before<=7/\ 0<=u/\ u<=1000/\
   Hid (QcM wr bm k D G (lkS g))/\ Hid (∀r g,(G r).ownBlock=Uq g ->w0.heap.size<=g)/\ Hid (Cur EX wr cb a n c (y:Int))/\ Hid (w0.grownBy wr (Uq cb))/\ bm<wr.heap.size/\
   Hid (QaF f n V (-1) 1000 I=(QaF f n (V - k) before u y).bind fun d=>Uq (g++d.1,d.2))) (fun _ _ iv _=>V - (intOf iv).toNat)
  case atStart=>exact⟨0,I,[],1000, -1,D0,G0,Uv _,rfl,rfl,rfl,oM,oM,oM,oM,Ha,Hg,C,F,Ha.own.lt,hid (by cases h:QaF f n (V - 0) (-1) 1000 I<;>simp_all)⟩
  case round=>
   obtain⟨k,y,g,u,before,D,G,hk,rfl,rfl,rfl,Hp,Hq,Hu,Hv,L,W,U,z,Hs,p⟩:=hrel;have zr:=z.size;by_cases Hm:k<V
   ·obtain⟨m,X⟩:∃m,V - k=m+1:=⟨V - k - 1,oM⟩;have S:=hid (QlJ cb B a n c y before u f aT aS aL aE wr hn hf U (HS.grown z hab) hab (HE.grown z hBc hc0) hBc oM oM);obtain⟨c0,c1,c2⟩:=U.out;go_wp2_with fail;refine S.mono ?_;rintro e w2 ⟨i,⟨r,l,x2,v,Z,Hx,Hy,Hz,hl,Hw,rfl,H,M⟩|⟨Z,r,t,v,y2,rfl,M⟩⟩
    ·have z2:=i.size;have Hb:=hid (L.gr (row:=Uq cb) i (fun e=>oI e) (fun r g hg e=>by injection e with e;have:=W r g hg;omega));have A:Hid (QaF f n V (-1) 1000 I=(QaF f n (V - (k+1)) r (u - (l.length:Int)) x2).bind fun d=>Uq (g++[(r,l)]++d.1,d.2)):=by
      refine hid ?_;rw [p.out,X,Qe4,Z,show V - (k+1)=m from by omega];simp only [YB];cases QaF f n m r (u - (l.length:Int)) x2 with
      | none=>rfl
      | some b=>simp
     have s:=hid M;have R:=hid (Qaf z i);have Hd:=QdR H;have HV:Hid (∀q,v.ownBlock=Uq q ->w0.heap.size<=q):=hid fun q hq=>Ux zr (World.ownsRow.lt H q hq).1;obtain⟨J,nv,O,o⟩:=Qbk H;have Hn:nv=l.length:=by
      rcases H.2 with ⟨e,e0⟩|⟨g',cap,Ho,e,_⟩
      ·rw [e] at o;injection o with _ e1 _;omega
      ·rw [e] at o;injection o with _ e1 _;omega
     subst Hn;have Hf:keyOf prog 3 (Ud r)=Uq (kI r):=keyOf_int_mk underlying3 (wfI oM oM);have e3:IntKind.i64.wrap (u - (l.length:Int))=u - (l.length:Int):=Qa3 _ oM oM;have He:Hid (w2.ownsRow 0 255 2 (Uf J l.length O) l.length (Qan l)):=o▸hid Hd;have Hj:Hid (∀q,(Value.slice J l.length O).ownBlock=Uq q ->w0.heap.size<=q):=o▸HV;subst o;have Hi:=hid Hb.own;clear i Z M S c0 c1 c2 L U z p X H Hd HV;go_wp2_with (at_mapUpdate;refine wpList_mapUpdate_own _ rfl _ _ _ 174 rfl 3 238 (int_keyed underlying3) underlying174 Qc3 bm _ _ rfl Hi oL _ _ _ rfl rfl Hf (.held (Uf J l.length O)) [] rfl ?_;intro w3 Hc N;go_frame);go_roundw;case rel=>
      have Hl:Uq cb≠Uq bm:=fun e=>oI e;have Hk:=N.block cb s.lt Hl;refine⟨k+1,x2,g++[(r,l)],u - (l.length:Int),r,D.put (kI r) (.held (Uf J l.length O)),upd G r (Uf J l.length O),Hm,oN,rfl,rfl,oM,oM,oM,oM,?_,?_,?_,?_,?_,A⟩
      ·rw [Ql4];exact hid (Hb.step He hl Hc N)
      ·refine hid fun q t hq=> ?_;by_cases e:q=r
       ·subst e;rw [Qap] at hq;exact Hj t hq
       ·rw [Qai _ _ e] at hq;exact W q t hq
      ·exact hid (s.at' Hk)
      ·exact hid (R.andThen N (fun j hj=> .inl (oI hj)))
      ·have:=N.size;omega
     case measure=>exact oE
    ·have A:Hid ((rdI f n x 8).bind (fun a=>QaF f n a.1 (-1) 1000 a.2)=Up):=by
      refine hid ?_;rw [K.out,p.out,X,Qe4,Z];rfl
     have R:=hid (Qaf z i);have s:=hid M;clear i Z M S c0 c1 c2 L U z p X;go_wp2_with fail;go_ret;have B2:Bl w2 (w2.alloc (Uj #[Um {data:=#[114,101,112,108,105,99,97]},Ud (y:Int),.iface t v] 216)):=zO _ _;exact⟨Qag R B2,.inr ⟨A,_,_,_,rfl,s.bw B2 s.lt⟩⟩
   ·obtain rfl:k=V:=oM;have A:Hid ((rdI f n x 8).bind (fun a=>QaF f n a.1 (-1) 1000 a.2)=Uq (g,y)):=by
     refine hid ?_;rw [K.out,p.out,Nat.sub_self];simp [QaF]
    clear p;go_wp2_with fail;go_ret;exact⟨z,.inl ⟨g,y,_,D,G,A,rfl,L,U,W⟩⟩
 ·have K:Hid ((rdI f n x 8).bind (fun a=>QaF f n a.1 (-1) 1000 a.2)=Up):=by rw [Y];exact hid rfl
  have F:=hid (Qaf P Q);have C:=hid E;clear Q Y E T HE;go_wp2_with fail;go_ret;exact⟨F,.inr ⟨K,_,_,_,rfl,C⟩⟩
open Go.Sort
abbrev Rn:=Int×Int×Int
def Apt (p q:Rn):Prop:=p.1<q.1 \/(p.1=q.1/\ p.2.2+1<q.2.1)
instance (p q:Rn):Decidable (Apt p q):=by unfold Apt;infer_instance
def Rok (p:Rn):Prop:=0<=p.1/\ p.1<8/\ 1<=p.2.1/\ p.2.1<=p.2.2/\ p.2.2<=1000000000
def QdF (l:List Rn):Prop:=l.Pairwise Apt/\∀p∈l,Rok p
def InR (p:Rn)(r x:Int):Prop:=p.1=r/\ p.2.1<=x/\ x<=p.2.2
def RI (l:List Rn)(r x:Int):Prop:=∃p∈l,InR p r x
theorem Apt.trans {p q s:Rn}(h1:Apt p q)(hq:Rok q)(h2:Apt q s):Apt p s:=by
 unfold Apt Rok at*;omega
theorem Qfq {p:Rn}{l:List Rn}:RI (p::l) r x↔InR p r x \/RI l r x:=by simp [RI]
theorem QbA {l l':List Rn}:RI (l++l') r x↔RI l r x \/RI l' r x:=by
 constructor
 ·rintro⟨p,j,h⟩;rcases List.mem_append.1 j with j|j
  ·exact .inl ⟨p,j,h⟩
  ·exact .inr ⟨p,j,h⟩
 ·rintro(⟨p,j,h⟩|⟨p,j,h⟩)
  ·exact⟨p,List.mem_append.2 (.inl j),h⟩
  ·exact⟨p,List.mem_append.2 (.inr j),h⟩
theorem QhC {p:Rn}:RI [p] r x↔InR p r x:=by simp [RI]
theorem Qmm:¬RI [] r x:=by simp [RI]
theorem QhP {p q:Rn}{l:List Rn}(h:QdF (p::l))(j:q∈p::l):p.1<q.1 \/(p.1=q.1/\ p.2.1<=q.2.1):=by
 rcases List.mem_cons.1 j with rfl|j
 ·exact .inr ⟨rfl,Yx _⟩
 ·have k:=(List.pairwise_cons.1 h.1).1 q j;have m:=h.2 p (Vt);unfold Apt Rok at*;omega
theorem QkQ {p p':Rn}{t t':List Rn}(h:QdF (p::t))(h':QdF (p'::t'))(he:∀r x,RI (p::t) r x ->RI (p'::t') r x)(hf:p.1=p'.1/\ p.2.1=p'.2.1):p.2.2<=p'.2.2:=by
 have g:=h.2 p Vt;have o:=h'.2 p' Vt;rcases Yy p'.2.2 p.2.2 with z|m
 ·exfalso;have k:RI (p::t) p.1 (p'.2.2+1):=⟨p,Vt,rfl,by unfold Rok at*;omega,oM⟩;obtain⟨q,j,u,v,y⟩:=he _ _ k;rcases List.mem_cons.1 j with rfl|j
  ·omega
  ·have:=(List.pairwise_cons.1 h'.1).1 q j;unfold Apt at this;omega
 ·exact m
theorem uniq:∀{l l':List Rn},QdF l ->QdF l' ->(∀r x,RI l r x↔RI l' r x) ->l=l'
 | [],[],_,_,_=>rfl
 | [],p'::t',_,h',he=>by
  have y:=h'.2 p' Vt;exact absurd ((he p'.1 p'.2.1).2 ⟨p',Vt,rfl,Yx _,y.2.2.2.1⟩) Qmm
 | p::t,[],h,_,he=>by
  have v:=h.2 p Vt;exact absurd ((he p.1 p.2.1).1 ⟨p,Vt,rfl,Yx _,v.2.2.2.1⟩) Qmm
 | p::t,p'::t',h,h',he=>by
  have v:=h.2 p Vt;have y:=h'.2 p' Vt;have m:p.1=p'.1/\ p.2.1=p'.2.1:=by
   obtain⟨q,j,Q,V,Z⟩:=(he p.1 p.2.1).1 ⟨p,Vt,rfl,Yx _,v.2.2.2.1⟩;obtain⟨X,A,U,Y,G⟩:=(he p'.1 p'.2.1).2 ⟨p',Vt,rfl,Yx _,y.2.2.2.1⟩;have a:=QhP h' j;have b:=QhP h A;omega
  have g:=QkQ h h' (fun r x=>(he r x).1) m;have o:=QkQ h' h (fun r x=>(he r x).2) ⟨m.1.symm,m.2.symm⟩;have i:p=p':=by
   obtain⟨a,b,c⟩:=p;obtain⟨O,b',c'⟩:=p';simp at m g o;obtain⟨rfl,rfl⟩:=m;have:c=c':=oM;rw [this]
  subst i;have z:∀{s:List Rn},QdF (p::s) ->∀{r x},RI s r x ->¬InR p r x:=by
   rintro s E r x ⟨q,j,H,I,J⟩ ⟨K,L,N⟩;have:=(List.pairwise_cons.1 E.1).1 q j;unfold Apt at this;omega
  have M:t=t':=by
   refine uniq ⟨(List.pairwise_cons.1 h.1).2,fun q j=>h.2 q (VT _ j)⟩ ⟨(List.pairwise_cons.1 h'.1).2,fun q j=>h'.2 q (VT _ j)⟩ (fun r x=> ?_);have e:=he r x;rw [Qfq,Qfq] at e;constructor
   ·intro u;rcases e.1 (.inr u) with k|k
    ·exact absurd k (z h u)
    ·exact k
   ·intro u;rcases e.2 (.inr u) with k|k
    ·exact absurd k (z h' u)
    ·exact k
  rw [M]
def QaK (s:List Rn×Rn×List Rn)(q:Rn):List Rn×Rn×List Rn:=
 if Apt q s.2.1 then(s.1++[q],s.2.1,s.2.2) else if Apt s.2.1 q then(s.1,s.2.1,s.2.2++[q]) else(s.1,(s.2.1.1,min q.2.1 s.2.1.2.1,max q.2.2 s.2.1.2.2),s.2.2)
def Qhd (l:List Rn)(r:Rn):List Rn×Rn×List Rn:=l.foldl QaK ([],r,[])
def ins (l:List Rn)(r:Rn):List Rn:=(Qhd l r).1++[(Qhd l r).2.1]++(Qhd l r).2.2
structure Inv (s:List Rn×Rn×List Rn)(t:List Rn):Prop where
 b:QdF s.1
 a:QdF s.2.2
 r:Rok s.2.1
 br:∀p∈s.1,Apt p s.2.1
 ra:∀p∈s.2.2,Apt s.2.1 p
 bt:∀p∈s.1,∀q∈t,Apt p q
 at':∀p∈s.2.2,∀q∈t,Apt p q
 t:QdF t
def RS (s:List Rn×Rn×List Rn)(r x:Int):Prop:=RI s.1 r x \/InR s.2.1 r x \/RI s.2.2 r x
theorem QdF.snoc {l:List Rn}{q:Rn}(h:QdF l)(hq:Rok q)(ha:∀p∈l,Apt p q):QdF (l++[q]):=
 ⟨List.pairwise_append.2 ⟨h.1,VW _ _,fun p j q' hq'=>by rw [UV] at hq';subst hq';exact ha p j⟩,fun p j=>by
  rcases List.mem_append.1 j with j|j
  ·exact h.2 p j
  ·rw [UV] at j;subst j;exact hq⟩
theorem Inv.step {s:List Rn×Rn×List Rn}{q:Rn}{t:List Rn}(h:Inv s (q::t)):Inv (QaK s q) t/\∀r x,RS (QaK s q) r x↔(RS s r x \/InR q r x):=by
 have v:=h.t.2 q Vt;have y:=(List.pairwise_cons.1 h.t.1).1;have u:QdF t:=⟨(List.pairwise_cons.1 h.t.1).2,fun p j=>h.t.2 p (VT _ j)⟩;have m:=fun p j q' (hq':q'∈t)=>h.bt p j q' (VT _ hq');have k:=fun p j q' (hq':q'∈t)=>h.at' p j q' (VT _ hq');unfold QaK;split
 ·rename_i hA;refine⟨⟨h.b.snoc v (fun p j=>h.bt p j q Vt),h.a,h.r,fun p j=> ?_,h.ra,fun p j=> ?_,k,u⟩,fun r x=> ?_⟩
  ·rcases List.mem_append.1 j with j|j
   ·exact h.br p j
   ·rw [UV] at j;subst j;exact hA
  ·rcases List.mem_append.1 j with j|j
   ·exact m p j
   ·rw [UV] at j;subst j;exact y
  ·simp only [RS,QbA,QhC];constructor
   ·rintro((a|a)|a|a)
    ·exact .inl (.inl a)
    ·exact .inr a
    ·exact .inl (.inr (.inl a))
    ·exact .inl (.inr (.inr a))
   ·rintro((a|a|a)|a)
    ·exact .inl (.inl a)
    ·exact .inr (.inl a)
    ·exact .inr (.inr a)
    ·exact .inl (.inr a)
 ·rename_i hA;split
  ·rename_i hB;refine⟨⟨h.b,h.a.snoc v (fun p j=>h.at' p j q Vt),h.r,h.br,fun p j=> ?_,m,fun p j=> ?_,u⟩,fun r x=> ?_⟩
   ·rcases List.mem_append.1 j with j|j
    ·exact h.ra p j
    ·rw [UV] at j;subst j;exact hB
   ·rcases List.mem_append.1 j with j|j
    ·exact k p j
    ·rw [UV] at j;subst j;exact y
   ·simp only [RS,QbA,QhC];constructor
    ·rintro(a|a|a|a)
     ·exact .inl (.inl a)
     ·exact .inl (.inr (.inl a))
     ·exact .inl (.inr (.inr a))
     ·exact .inr a
    ·rintro((a|a|a)|a)
     ·exact .inl a
     ·exact .inr (.inl a)
     ·exact .inr (.inr (.inl a))
     ·exact .inr (.inr (.inr a))
  ·rename_i hB;have i:=h.r;have nil:∀p∈s.2.2,False:=fun p j=>hB ((h.ra p j).trans (h.a.2 p j) (h.at' p j q Vt));refine⟨⟨h.b,h.a,?_,fun p j=> ?_,fun p j=>(nil p j).elim,m,k,u⟩,fun r x=> ?_⟩
   ·unfold Apt Rok at*;simp only;omega
   ·have g:=h.br p j;have o:=h.bt p j q Vt;unfold Apt at*;simp only;omega
   ·have z:InR (s.2.1.1,min q.2.1 s.2.1.2.1,max q.2.2 s.2.1.2.2) r x↔(InR s.2.1 r x \/InR q r x):=by
     unfold InR Apt Rok at*;simp only;omega
    simp only [RS,z];constructor
    ·rintro(a|(a|a)|a)
     ·exact .inl (.inl a)
     ·exact .inl (.inr (.inl a))
     ·exact .inr a
     ·exact .inl (.inr (.inr a))
    ·rintro((a|a|a)|a)
     ·exact .inl a
     ·exact .inr (.inl (.inl a))
     ·exact .inr (.inr a)
     ·exact .inr (.inl (.inr a))
theorem Inv.fold:∀(t:List Rn) (s:List Rn×Rn×List Rn),Inv s t ->Inv (t.foldl QaK s) []/\∀r x,RS (t.foldl QaK s) r x↔(RS s r x \/RI t r x)
 | [],s,h=>⟨h,fun r x=>by simp [RI]⟩
 | q::t,s,h=>by
  obtain⟨j,k⟩:=h.step;obtain⟨m,u⟩:=Inv.fold t _ j;refine⟨m,fun r x=> ?_⟩;rw [List.foldl_cons,u r x,k r x,Qfq,or_assoc]
theorem Qps {l:List Rn}{r:Rn}(hl:QdF l)(hr:Rok r):QdF (ins l r)/\∀y x,RI (ins l r) y x↔(RI l y x \/InR r y x):=by
 have m:Inv ([],r,[]) l:=⟨⟨List.Pairwise.nil,(fun p j=>by cases j)⟩,⟨List.Pairwise.nil,(fun p j=>by cases j)⟩,hr,(fun p j=>by cases j),(fun p j=>by cases j),(fun p j=>by cases j),(fun p j=>by cases j),hl⟩;obtain⟨h,u⟩:=Inv.fold l _ m;change Inv (Qhd l r) [] at h;refine⟨⟨?_,fun p j=> ?_⟩,fun y x=> ?_⟩
 ·unfold ins;rw [Vu];refine List.pairwise_append.2 ⟨h.b.1,List.pairwise_append.2 ⟨VW _ _,h.a.1,fun p j q k=> ?_⟩,fun p j q k=> ?_⟩
  ·rw [UV] at j;subst j;exact h.ra q k
  ·rcases List.mem_append.1 k with k|k
   ·rw [UV] at k;subst k;exact h.br p j
   ·exact(h.br p j).trans h.r (h.ra q k)
 ·unfold ins at j;rcases List.mem_append.1 j with j|j
  ·rcases List.mem_append.1 j with j|j
   ·exact h.b.2 p j
   ·rw [UV] at j;subst j;exact h.r
  ·exact h.a.2 p j
 ·have:=u y x;unfold ins;rw [QbA,QbA,QhC];change RS (Qhd l r) y x↔_ at this;unfold RS at this;rw [or_assoc,this];simp [RI];exact or_comm
def unF (l b:List Rn):List Rn:=b.foldl ins l
theorem QkP:∀(b l:List Rn),QdF l ->(∀p∈b,Rok p) ->QdF (unF l b)/\∀y x,RI (unF l b) y x↔(RI l y x \/RI b y x)
 | [],l,h,_=>⟨h,fun y x=>by simp [unF,RI]⟩
 | q::b,l,h,hb=>by
  obtain⟨j,k⟩:=Qps h (hb q Vt);obtain⟨m,r⟩:=QkP b (ins l q) j (fun p hp=>hb p (VT _ hp));refine⟨m,fun y x=> ?_⟩;show RI (unF (ins l q) b) y x↔_;rw [r,k,Qfq,or_assoc]
def In (l:List (Int×Int))(x:Int):Prop:=∃p∈l,p.1<=x/\ x<=p.2
theorem QcN {l':List (Int×Int)}:In (l++l') x↔In l x \/In l' x:=by
 constructor
 ·rintro⟨p,j,h⟩;rcases List.mem_append.1 j with j|j
  ·exact .inl ⟨p,j,h⟩
  ·exact .inr ⟨p,j,h⟩
 ·rintro(⟨p,j,h⟩|⟨p,j,h⟩)
  ·exact⟨p,List.mem_append.2 (.inl j),h⟩
  ·exact⟨p,List.mem_append.2 (.inr j),h⟩
theorem Qh9 {p:Int×Int}:In [p] x↔p.1<=x/\ x<=p.2:=by simp [In]
theorem Qnd {p:Int×Int}:In (p::l) x↔(p.1<=x/\ x<=p.2) \/In l x:=by simp [In]
theorem Qh8:¬In [] x:=by simp [In]
def QgM (l:List (Int×Int))(p:Int×Int):List (Int×Int):=match l.getLast? with
 | none=>[p]
 | some q=>if q.2+1<p.1 then l++[p] else l.dropLast++[(q.1,max q.2 p.2)]
theorem QhH (p:Int×Int):QgM [] p=[p]:=rfl
theorem QhG{p:Int×Int}(h:q.2+1<p.1):QgM (l++[q]) p=l++[q]++[p]:=by
 simp [QgM,h]
theorem Qji{p:Int×Int}(h:¬q.2+1<p.1):QgM (l++[q]) p=l++[(q.1,max q.2 p.2)]:=by
 simp [QgM,h]
def Sok (p:Int×Int):Prop:=1<=p.1/\ p.1<=p.2/\ p.2<=1000000000
theorem Srt.snoc{p:Int×Int}(h:Srt l)(hp:Sok p)(ha:∀q∈l,q.2+1<p.1):Srt (l++[p]):=
 ⟨List.pairwise_append.2 ⟨h.1,VW _ _,fun q j p' hp'=>by rw [UV] at hp';subst hp';exact ha q j⟩,fun q j=>by
  rcases List.mem_append.1 j with j|j
  ·exact h.2 q j
  ·rw [UV] at j;subst j;exact hp⟩
theorem Srt.split(h:Srt (l++[q])):Srt l/\ Sok q/\∀p∈l,p.2+1<q.1:=by
 obtain⟨k,j⟩:=h;obtain⟨a,_,c⟩:=List.pairwise_append.1 k;exact⟨⟨a,fun p hp=>j p (List.mem_append.2 (.inl hp))⟩,j q oP,fun p hp=>c p hp q oP⟩
theorem Qni{p:Int×Int}(h:Srt l)(hp:Sok p)(hle:∀q∈l,q.1<=p.1):
  Srt (QgM l p)/\ (∀x,In (QgM l p) x↔(In l x \/(p.1<=x/\ x<=p.2)))/\ (∀q∈QgM l p,q.1<=p.1)/\ (QgM l p).length<=l.length+1:=by
 rcases VU l with rfl|⟨y,q,rfl⟩
 ·rw [QhH];exact⟨⟨VW _ _,fun q k=>by rw [UV] at k;subst k;exact hp⟩,fun x=>by simp [In],fun q k=>by rw [UV] at k;subst k;exact Yx _,oP⟩
 ·simp only [VV] at*;obtain⟨u,v,r⟩:=h.split;have k:=hle q oP;by_cases m:q.2+1<p.1
  ·rw [QhG m];refine⟨h.snoc hp (fun p' j=> ?_),fun x=>by rw [QcN,Qh9],fun p' j=> ?_,oP⟩
   ·rcases List.mem_append.1 j with j|j
    ·have:=r p' j;unfold Sok at v;omega
    ·rw [UV] at j;subst j;exact m
   ·rcases List.mem_append.1 j with j|j
    ·exact hle p' j
    ·rw [UV] at j;subst j;exact Yx _
  ·rw [Qji m];refine⟨u.snoc ?_ r,fun x=> ?_,fun p' j=> ?_,oP⟩
   ·unfold Sok at*;simp only;omega
   ·rw [QcN,QcN,Qh9,Qh9,or_assoc];have:(q.1<=x/\ x<=max q.2 p.2)↔((q.1<=x/\ x<=q.2) \/(p.1<=x/\ x<=p.2)):=(by unfold Sok at*;omega);simp only [this]
   ·rcases List.mem_append.1 j with j|j
    ·exact hle p' (List.mem_append.2 (.inl j))
    ·rw [UV] at j;subst j;exact k
structure Qgi (la lb m:List (Int×Int))(i j:Nat):Prop where
 s:Srt m
 le:∀q∈m,(∀p∈la.drop i,q.1<=p.1)/\ (∀p∈lb.drop j,q.1<=p.1)
 in':∀x,(In m x \/In (la.drop i) x \/In (lb.drop j) x)↔(In la x \/In lb x)
 len:m.length+(la.length - i)+(lb.length - j)<=la.length+lb.length
theorem Qgi.start (la lb:List (Int×Int)):Qgi la lb [] 0 0:=
 ⟨⟨List.Pairwise.nil,fun p hp=>by cases hp⟩,(fun q hq=>by cases hq),fun x=>by simp [In],oP⟩
theorem QgR(hi:i<l.length):l.drop i=l.getD i (0,0)::l.drop (i+1):=by
 rw [List.drop_eq_getElem_cons hi];simp [UR,hi]
theorem Qiw(h:Srt l)(hi:i<l.length):Sok (l.getD i (0,0))/\∀p∈l.drop (i+1),(l.getD i (0,0)).1<=p.1:=by
 have k:l.getD i (0,0)∈l:=by simp [UR,hi]
 refine⟨h.2 _ k,fun p hp=> ?_⟩;have j:=List.Pairwise.sublist (List.drop_sublist i l) h.1;rw [QgR hi] at j;have:=(List.pairwise_cons.1 j).1 p hp;have:=h.2 _ k;omega
theorem Qgi.stepA {m:List (Int×Int)}(ha:Srt la)(hb:Srt lb)(h:Qgi la lb m i j)(hi:i<la.length)(hab:j<lb.length ->(la.getD i (0,0)).1<=(lb.getD j (0,0)).1):Qgi la lb (QgM m (la.getD i (0,0))) (i+1) j:=by
 obtain⟨k,y⟩:=Qiw ha hi;have e:=QgR hi;obtain⟨z,g,u,t⟩:=Qni h.s k (fun q hq=>(h.le q hq).1 _ (by rw [e];simp));refine⟨z,fun q hq=>⟨fun p k=>Yz (u q hq) (y p k),fun p k=>Yz (u q hq) ?_⟩,fun x=> ?_,?_⟩
 ·by_cases r:j<lb.length
  ·have v:=QgR r;rw [v] at k;rcases List.mem_cons.1 k with rfl|k
   ·exact hab r
   ·exact Yz (hab r) ((Qiw hb r).2 p k)
  ·rw [List.drop_eq_nil_of_le oM] at k;cases k
 ·rw [<- h.in' x,g x,e,Qnd,or_assoc,or_assoc]
 ·have:=h.len;omega
theorem Qgi.stepB {m:List (Int×Int)}(ha:Srt la)(hb:Srt lb)(h:Qgi la lb m i j)(hj:j<lb.length)(hab:i<la.length ->(lb.getD j (0,0)).1<=(la.getD i (0,0)).1):Qgi la lb (QgM m (lb.getD j (0,0))) i (j+1):=by
 have r:Qgi lb la m j i:=⟨h.s,fun q hq=>⟨(h.le q hq).2,(h.le q hq).1⟩,fun x=>by rw [or_comm (a:=In lb x),<- h.in' x,or_comm (a:=In (la.drop i) x)],oH h.len⟩;have k:=Qgi.stepA hb ha r hj hab;exact⟨k.s,fun q hq=>⟨(k.le q hq).2,(k.le q hq).1⟩,fun x=>by rw [or_comm (a:=In la x),<- k.in' x,or_comm (a:=In (la.drop i) x)],oH k.len⟩
theorem Qgi.done {m:List (Int×Int)}(h:Qgi la lb m la.length lb.length):Srt m/\ (∀x,In m x↔(In la x \/In lb x))/\ m.length<=la.length+lb.length:=by
 refine⟨h.s,fun x=> ?_,oH h.len⟩;rw [<- h.in' x];simp [In]
def flat (R F T:Nat ->Int)(n:Nat):List Rn:=(UT n).map fun i=>(R i,F i,T i)
def tag (r:Int)(l:List (Int×Int)):List Rn:=l.map fun p=>(r,p.1,p.2)
def QcK (L:Int ->List (Int×Int))(k:Nat):List Rn:=(KS L k).flatMap fun r=>tag r (L r)
theorem QcU (R F T:Nat ->Int)(n:Nat):flat R F T (n+1)=flat R F T n++[(R n,F n,T n)]:=by simp [flat,List.range_succ]
theorem Qeb (R F T:Nat ->Int):∀(n:Nat) (r x:Int),RI (flat R F T n) r x↔In (Lk R F T n r) x
 | 0,r,x=>by simp [flat,Lk,RI,In]
 | n+1,r,x=>by
  rw [QcU,QbA,QhC,Qeb R F T n r x];by_cases e:r=R n
  ·subst e;have:Lk R F T (n+1) (R n)=Lk R F T n (R n)++[(F n,T n)]:=Qap _ _ _;rw [this,QcN,Qh9];simp [InR]
  ·have:Lk R F T (n+1) r=Lk R F T n r:=Qai _ _ e;rw [this];simp [InR,Ne.symm e]
theorem Qcv {R F T:Nat ->Int}:∀(n:Nat),QeM R F T n ->QdF (flat R F T n)
 | 0,_=>⟨by simp [flat],fun p j=>by simp [flat] at j⟩
 | n+1,h=>by
  have q:=Qcv n (fun i hi=>h i oM);have v:=Qbf.1 (h n oM).1;rw [QcU];refine q.snoc v (fun p j=> ?_);cases n with
  | zero=>simp [flat] at j
  | succ m=>
   have k:=(h (m+1) oM).2 oM;unfold QaJ at k;have k:=of_decide_eq_true k;rw [Uz] at k;have r:Apt (R m,F m,T m) (R (m+1),F (m+1),T (m+1)):=k;rw [QcU] at j q;rcases List.mem_append.1 j with j|j
   ·have u:=(List.pairwise_append.1 q.1).2.2 p j _ (List.mem_singleton.2 rfl);exact u.trans (q.2 _ oP) r
   ·rw [UV] at j;subst j;exact r
theorem Qh5(h:Srt l)(h0:0<=r)(h8:r<8):QdF (tag r l):=by
 refine⟨List.pairwise_map.2 (h.1.imp (fun hh=> .inr ⟨rfl,hh⟩)),fun p hp=> ?_⟩;obtain⟨q,j,rfl⟩:=List.mem_map.1 hp;have:=h.2 q j;exact⟨h0,h8,this⟩
theorem QkM:RI (tag r l) y x↔(r=y/\ In l x):=by
 constructor
 ·rintro⟨p,u,k,m⟩;obtain⟨q,j,rfl⟩:=List.mem_map.1 u;exact⟨k,q,j,m⟩
 ·rintro⟨rfl,q,j,h⟩;exact⟨_,List.mem_map.2 ⟨q,j,rfl⟩,rfl,h⟩
theorem Qex(h:(L (k:Int)).isEmpty=false):QcK L (k+1)=QcK L k++tag (k:Int) (L (k:Int)):=by
 simp [QcK,KS,h]
theorem Qew(h:(L (k:Int)).isEmpty=true):QcK L (k+1)=QcK L k:=by
 simp [QcK,KS,h]
theorem Qdz {L:Int ->List (Int×Int)}(hL:∀r,Srt (L r)):∀k:Nat,k<=8 ->QdF (QcK L k)/\ (∀y x,RI (QcK L k) y x↔(0<=y/\ y<k/\ In (L y) x))/\∀p∈QcK L k,p.1<k
 | 0,_=>⟨⟨by simp [QcK,KS],fun p j=>by simp [QcK,KS] at j⟩,fun y x=>by simp [QcK,KS,RI];omega,fun p j=>by simp [QcK,KS] at j⟩
 | k+1,hk=>by
  obtain⟨m,z,u⟩:=Qdz hL k oM;by_cases e:(L (k:Int)).isEmpty=true
  ·rw [Qew e];refine⟨m,fun y x=> ?_,fun p j=>oH (u p j)⟩;rw [z];constructor
   ·rintro⟨a,b,c⟩;exact⟨a,oM,c⟩
   ·rintro⟨a,b,c⟩;refine⟨a,?_,c⟩;rcases Yy y k with h|h
    ·exact h
    ·have:y=(k:Int):=oM;subst this;have:L (k:Int)=[]:=oW e;rw [this] at c;exact absurd c Qh8
  ·have e:(L (k:Int)).isEmpty=false:=oW e;rw [Qex e];have v:=Qh5 (hL (k:Int)) (by omega:(0:Int)<=k) oM;refine⟨⟨List.pairwise_append.2 ⟨m.1,v.1,fun p j q hq=> ?_⟩,fun p j=> ?_⟩,fun y x=> ?_,fun p j=> ?_⟩
   ·obtain⟨g,_,rfl⟩:=List.mem_map.1 hq;exact .inl (u p j)
   ·rcases List.mem_append.1 j with j|j
    ·exact m.2 p j
    ·exact v.2 p j
   ·rw [QbA,z,QkM];constructor
    ·rintro(⟨a,b,c⟩|⟨rfl,c⟩)
     ·exact⟨a,oM,c⟩
     ·exact⟨oM,oM,c⟩
    ·rintro⟨a,b,c⟩;rcases Yy y k with h|h
     ·exact .inl ⟨a,h,c⟩
     ·have:y=(k:Int):=oM;subst this;exact .inr ⟨rfl,c⟩
   ·rcases List.mem_append.1 j with j|j
    ·have:=u p j;omega
    ·obtain⟨g,_,rfl⟩:=List.mem_map.1 j;show (k:Int)<_;omega
theorem QlY {R' F' T':Nat ->Int}{n':Nat}(h:QeM R F T n)(h':QeM R' F' T' n')(hS:∀r,Srt (L r))(hI:∀r x,In (L r) x↔(In (Lk R F T n r) x \/In (Lk R' F' T' n' r) x)):
  unF (flat R F T n) (flat R' F' T' n')=QcK L 8:=by
 obtain⟨v,y⟩:=QkP (flat R' F' T' n') (flat R F T n) (Qcv n h) (Qcv n' h').2;obtain⟨q,u,_⟩:=Qdz hS 8 zL;refine uniq v q (fun r x=> ?_);rw [y,u,Qeb,Qeb,hI];constructor
 ·intro j;have m:0<=r/\ r<8:=by
   rcases j with ⟨p,k,_⟩|⟨p,k,_⟩
   ·exact QdU n h r (VX k)
   ·exact QdU n' h' r (VX k)
  exact⟨m.1,m.2,j⟩
 ·exact fun j=>j.2.2
end Go.Proofs.YtedpomikcaemgaaGreatDoor
