import Derived.Test.YtgmjgboibfdaeaaGreatDoorDrhShel2
import Derived.Shelf.SlIter.Collect
import Derived.Sort.MapsRangeIn
import Derived.WalkSmall
import Derived.Shelf.SlSortCmp.NoneTotal
import Derived.RangeFuncBound
import Derived.Test.YtgmjgboibfdaeaaGreatDoorDrg09
set_option linter.unusedVariables false
set_option linter.unusedSimpArgs false
set_option maxRecDepth 100000
set_option maxHeartbeats 40000000
namespace Go.Proofs.YtgmjgboibfdaeaaGreatDoor
open Go.ChangeShapes Go.WideShapes Go.ChangeAt Go.RowKit Go.Maps Go.Sort Go.Lib Go.Shelf
variable {B cap g m n:Nat}{cur:Array Value}{e:TypeId}{fr:Nat×Nat}{ts:List Ky}{v:Value}{w:World}
theorem Qgf (n l Bm b nn:Nat)(f:Ky ->Option (Nat×Nat))(D0:DataW Value)(J:List Ky ->World ->Prop)(hn:1<=n)
  (hY:∀pre x W,J pre W ->pre.length<Maps.size D0 ->YieldAt Fence.wide (n - 1) Tryz.prog l #[Qa5 x] W fun e W'=>e=.returned (.bool true)/\ J (pre++[x]) W'/\ KeepsWalks W W')
  (W:World) (hJ:AbidesFrom W.heap.size J) (hm:W.cell? ⟨Bm,0,none⟩=some (.map (some b))) (hF:FM W 208 Qa5 QaQ b nn f D0) (h0:J [] W):
  CallsIn Fence.wide n Tryz.prog 181 #[.func (.yield l) #[] #[],.pointer (some ⟨Bm,0,none⟩)] W fun e W'=>(∃v,e=.returned v)/\∃j,QbF f j/\ J j W':=by
 have F:=hF.own;have u:=hid hF;have y:=hid hJ;have U:=hid hY;clear hF hJ hY;refine callsIn_of_wp Tryz.func181 rfl trivial ?_ rfl;simp only [Tryz.ntmps181,List.size_toArray,List.length_cons,List.length_nil,Nat.reduceAdd,Nat.reduceSub,Array.replicate_succ,Array.replicate_zero,List.push_toArray,List.append_toArray,List.nil_append,List.cons_append];gi_wp2_with (first
  | (gi_at_range;refine wpListIn_range_own _ rfl _ 153 rfl 208 156 Qas Tryz.underlying153 _ b nn _ rfl F ?_;intro w0 P K He)
  | gi_in)
 try go_frame
 gi_loopw [3] (fun _ wr=>∃(g:Lit ->Bool) (z:Nat) (j:List Ky),wr.ranges Tryz.prog 208 QhK b W.heap.size nn D0 g z/\ j.length+z<=Maps.size D0/\ QcJ 208 Qa5 f g j/\ J j wr)
  (fun _ wr=>wr.rangeLeft b W.heap.size)
 case atStart=>exact⟨_,_,[],P,by simp,QcJ.start u,y [] W w0 none h0 K (fun r e=>by cases e)⟩
 case round=>
  obtain⟨g,z,j,h,M,s,A⟩:=hrel;have o:=hid s;have i:=hid M;clear s M;gi_wp2_with (first
   | (gi_at_next;refine wpListIn_next_ranges _ rfl _ rfl 208 Qas QhK Qa5 id (fun key kl hk=>Qb0 hk) (fun v _ _=>⟨v,rfl⟩) b W.heap.size nn _ _ _ rfl h ?_ ?_)
   | gi_in)
  ·intro Hd B;gi_wp2
   go_end0;exact⟨⟨_,rfl⟩,j,o.done u B,A⟩
  ·intro xs m c kl yd yp k V X C hv H R D L S I;have Y:J j k:=y j wr k (some W.heap.size) A L (fun r e=>by cases e;exact⟨Nat.le_refl _,h.iter_walk⟩);obtain⟨t,q⟩:=zE (k.alloc (.cells #[.string xs,.int .i64 m] 208));have Z:J j t:=by rw [<- q];exact y j k _ none Y (World.grownBy_alloc k _ none) (fun r e=>by cases e)
   obtain⟨fn,Hc,Ha,Hb,T,E⟩:=U j (xs,m) t Z (by have:=i.out;omega);have p:Bx2 t k.heap.size (.string xs) (.int .i64 m):=by rw [<- q];exact Bx2.made _ _ _ _
   have O:=R.alloc (.cells #[.string xs,.int .i64 m] 208);rw [q] at O;obtain⟨q0,q1⟩:=p.q2;clear S p;dsimp only [Qa5] at I T E ⊢;gi_wp2
   try rw [q]
   refine E.mono ?_;rintro e W3 ⟨rfl,G,N⟩;gi_wp2
   have Q:=O.of_walks N;go_roundw;case rel=>exact⟨_,V,j++[(xs,m)],Q,by have:=i.out;simp;omega,o.step u Qas (fun _ _=>QaZ) X C H,G⟩
   case measure=>rw [Q.left_eq,h.left_eq];exact D
def kCells (x:Ky):List Value:=[.string x.1,.int .i64 x.2]
def kRow (ss:List Ky):List Value:=ss.flatMap kCells
theorem Qd3 (ss:List Ky)(x:Ky):kRow (ss++[x])=kRow ss++kCells x:=by simp [kRow]
theorem Qlr:(Tryz.prog.info? 208).map (fun i=>(i.zero,i.size,i.bytes))=some (some (.agg #[.string ByteArray.empty,.int .i64 0]),2,24):=by kernel_rfl
def apA:Code:=(Code.region 2 #[{dst:=some 5,op:=Op.alloc 208,type:=0,pos:= "iter.go:51",after:=#[],guard:=none},{dst:=none,op:=Op.store 208 (Operand.tmp 5) (Operand.tmp 7),type:=0,pos:= "iter.go:51",after:=#[{on:=0,ground:=Ground.data},{on:=0,ground:=Ground.phase}],guard:=none}] false)
def apB:Code:=(Code.block 1 (Code.region 3 #[{dst:=some 8,op:=Op.load 203 (Operand.tmp 2),type:=203,pos:= "iter.go:52",after:=#[],guard:=none},{dst:=some 9,op:=Op.load 208 (Operand.tmp 5),type:=208,pos:= "iter.go:52",after:=#[],guard:=none},{dst:=some 10,op:=Op.buildSlice 203 1 #[(0,Operand.tmp 9)],type:=203,pos:= "iter.go:52",after:=#[{on:=1,ground:=Ground.data}],guard:=none},{dst:=some 11,op:=Op.call {callee:=Callee.builtin Builtin.append,args:=#[Operand.tmp 8,Operand.tmp 10],argTypes:=#[203,203]},type:=203,pos:= "iter.go:52",after:=#[{on:=0,ground:=Ground.data},{on:=2,ground:=Ground.data}],guard:=none},{dst:=none,op:=Op.store 203 (Operand.tmp 2) (Operand.tmp 11),type:=0,pos:= "iter.go:52",after:=#[{on:=3,ground:=Ground.data},{on:=3,ground:=Ground.chain},{on:=0,ground:=Ground.phase},{on:=1,ground:=Ground.phase},{on:=2,ground:=Ground.phase},{on:=3,ground:=Ground.phase}],guard:=none}] false))
def QaR (fn:FuncId)(sv:Value)(Bs D:Nat)(st:LoopState):Loop:=
 {state:=st,pending:=none,fn,tmps:=#[.slice none 0 0,sv,.pointer (some ⟨Bs,0,none⟩),undef,.slice none 0 0,undef,sv,undef,undef,undef,undef,undef,undef],params:=#[7],assign:=apA,body:=apB,defers:=D}
structure QfF (w0:World)(fn:FuncId)(sv:Value)(Bs l D:Nat)(ss:List Ky)(W:World):Prop where
 box:∃v,W.heap[Bs]? =some (.cells #[v] 203 (0,0))/\ W.ownsRow w0.heap.size 208 2 v ss.length (kRow ss)/\ (v=.slice none 0 0↔ss=[])
 L:W.heap[l]? =some (.loop (QaR fn sv Bs D .ready))
 K:W.heap[D]? =some (.deferred (some []))
 bw:Bl w0 W
theorem Qbx (w0:World)(fn:FuncId)(sv:Value)(Bs l D B:Nat)(hB:w0.heap.size<=B):AbidesFrom B (QfF w0 fn sv Bs l D):=fun s W W' row h hg hrow=>by
 have j:∀r,row=some r ->∃o:Obj,W.heap[r]? =some o/\ o.isWalk=true:=fun r e=>(hrow r e).2;obtain⟨v,m,u,q⟩:=h.box;exact⟨⟨v,(grownBy_keeps hg j m rfl).trans m,ownsRow_abides_a u hg j,q⟩,(grownBy_keeps hg j h.L rfl).trans h.L,(grownBy_keeps hg j h.K rfl).trans h.K,h.bw.grown hg h.bw.size (fun k e=>Nat.le_trans hB (hrow k e).1)⟩
theorem Qdc (m:Nat)(w0:World)(fn:FuncId)(sv:Value)(Bs l D:Nat)(hBl:Bs≠l)(hDl:D≠l)(hDB:D≠Bs)(h0B:w0.heap.size<=Bs)(h0l:w0.heap.size<=l)
    (N:Nat) (hN:N<=maxLen) (hNb:N*24<=140737488355328) (ss:List Ky) (x:Ky) (W:World) (h:QfF w0 fn sv Bs l D ss W) (hlen:ss.length<N):
    YieldAt Fence.wide m Tryz.prog l #[Qa5 x] W fun e W'=>e=.returned (.bool true)/\ QfF w0 fn sv Bs l D (ss++[x]) W'/\ KeepsWalks W W':=by
  have Hi:203≠208:=by decide
  obtain⟨i0,hi,Hs,Ht,Hu⟩:=info_parts Qlr;refine⟨fn,#[.slice none 0 0,sv,.pointer (some ⟨Bs,0,none⟩),undef,.slice none 0 0,undef,sv,Qa5 x,undef,undef,undef,undef,undef],apA,apB,by simpa [QaR] using run_yield (P:=Tryz.prog) (args:=#[Qa5 x]) h.L rfl,roundIn_of_wpIn trivial ?_⟩;obtain⟨xs,p⟩:=x;obtain⟨g,J⟩:=zE (W.alloc (.cells #[.string xs,.int .i64 p] 208));have u:QfF w0 fn sv Bs l D ss g:=by rw [<- J];exact Qbx w0 fn sv Bs l D w0.heap.size zL ss W _ none h (World.grownBy_alloc W _ none) (fun r e=>by cases e)
  have Hh:KeepsWalks W g:=by rw [<- J];exact KeepsWalks.alloc _ _
  have A:Bx2 g W.heap.size (.string xs) (.int .i64 p):=by rw [<- J];exact Bx2.made _ _ _ _
  have Hz:l<W.heap.size:=(Array.getElem?_eq_some_iff.1 h.L).1;obtain⟨v,hv,B,_⟩:=u.box;have hl:l<g.heap.size:=(Array.getElem?_eq_some_iff.1 u.L).1;have Hl:=run_beginRound (P:=Tryz.prog) u.L rfl;obtain⟨q,i⟩:∃q,g.putObj l (.loop {QaR fn sv Bs D .ready with state:=.busy})=q:=⟨_,rfl⟩;rw [i] at Hl;have Q:g.grownBy q (some l):=by rw [<- i];exact grownBy_putObj_a _ _ _
  have Hn:KeepsWalks W q:=Hh.trans (by rw [<- i];exact KeepsWalks.putObj _ u.L rfl);have Y:q.heap[Bs]? =some (.cells #[v] 203 (0,0)):=by rw [<- i];exact(World.putObj_heap_other hBl).trans hv
  have H:q.heap[D]? =some (.deferred (some [])):=by rw [<- i];exact(World.putObj_heap_other hDl).trans u.K
  have I:q.heap[l]? =some (.loop {QaR fn sv Bs D .ready with state:=.busy}):=by rw [<- i];exact World.putObj_heap_same hl
  have C:q.ownsRow w0.heap.size 208 2 v ss.length (kRow ss):=B.kept Q (ownsRow_ne_a B u.L (fun cur e=>by cases e));have O:Bl w0 q:=u.bw.grown Q u.bw.size (fun k e=>by cases e;exact h0l);have G:q.heap[W.heap.size]? =g.heap[W.heap.size]? :=Q.block _ A.lt (fun e=>by injection e with e;omega);have q0:q.cell? ⟨W.heap.size,0,none⟩=some (.string xs):=(World.cell?_of_block (a:=⟨W.heap.size,0,none⟩) G).trans A.c0;have q1:q.cell? ⟨W.heap.size,1,none⟩=some (.int .i64 p):=(World.cell?_of_block (a:=⟨W.heap.size,1,none⟩) G).trans A.c1;obtain⟨Hv,Hx⟩:=cell_of_box_a Y;have Hb:Bs<q.heap.size:=(Array.getElem?_eq_some_iff.1 Y).1;have Hp:l<q.heap.size:=(Array.getElem?_eq_some_iff.1 I).1;have Hc:D<q.heap.size:=(Array.getElem?_eq_some_iff.1 H).1;have ne_of:∀{j:Nat} {o:Obj},q.heap[j]? =some o ->(∀cur,o≠.cells cur 208 (0,0)) ->some j≠v.ownBlock:=fun hj hno=>by
    rcases ownsRow_ne_a C hj hno with e|e
    · rw [e];simp
    · exact fun e'=>e e'.symm
  have Z:=hid C;have HZ:=hid O.size;clear i B C A G Q Hh;unfold apA;dsimp only [Qa5];gi_wp2_with gi_round_op_a
  unfold apB;gi_wp2_with (first
    | (gi_at_builtin;refine wpListIn_append_own _ rfl _ _ 203 rfl w0.heap.size 208 i0 (.agg #[.string ByteArray.empty,.int .i64 0]) 2 24 Tryz.underlying203 hi Hs Ht Hu rfl (by decide) _ _ _ rfl (Z.alloc _) ⟨q.heap.size,0,none⟩ 1 1 [.string xs,.int .i64 p] rfl rfl (cell_two_new _ _ _ _) (by simp [Value.oneCell']) (by omega) (by omega) (by have:=HZ.out;simp;omega) ?_;intro v' y X Hg Hj
       have F:y.heap[Bs]? =some (.cells #[v] 203 (0,0)):=(Hg.block Bs (by simp;omega) (ne_of Y (fun cur e=>Hi (Obj.cells.inj e).2.1))).trans ((Below.heap_alloc _ _ Bs Hb).trans Y)
       obtain⟨Hw,Hy⟩:=cell_of_box_a F
       obtain⟨b,t,E,rfl,Hd,Hm,H0,H1,H2,H3⟩:∃b t E,v'=.slice (some ⟨b,0,none⟩) (ss.length+1) t/\ w0.heap.size<=b/\ y.heap[b]? =some (.cells E 208 (0,0))/\ ss.length+1<=t/\ t<=maxLen/\ E.size=t*2/\ E.toList.take ((ss.length+1)*2)=kRow ss++[.string xs,.int .i64 p]:=by
         rcases X.2 with ⟨_,h0⟩|h'
         · exact absurd h0 (by omega)
         · exact h'
       have R:=hid X
       clear X
       try go_frame)
    | gi_round_op_a)
  have U:(q.alloc (.cells #[.string xs,.int .i64 p] 208)).grownBy y v.ownBlock:=Hg;have T:y.heap[l]? =some (.loop {QaR fn sv Bs D .ready with state:=.busy}):=(U.block l (by simp;omega) (ne_of I (fun cur e=>by cases e))).trans ((Below.heap_alloc _ _ l Hp).trans I);have S:y.heap[D]? =some (.deferred (some [])):=(U.block D (by simp;omega) (ne_of H (fun cur e=>by cases e))).trans ((Below.heap_alloc _ _ D Hc).trans H);obtain⟨z,s⟩:=zE (y.setCell ⟨Bs,0,none⟩ (.slice (some ⟨b,0,none⟩) (ss.length+1) t));rw [s];have V:y.grownBy z (some Bs):=by rw [<- s];exact grownBy_setCell0_a _ _ _
  have Hr:z.heap[Bs]? =some (.cells #[.slice (some ⟨b,0,none⟩) (ss.length+1) t] 203 (0,0)):=by rw [<- s];exact heap_setCell_box_a _ F
  have M:z.heap[l]? =some (.loop {QaR fn sv Bs D .ready with state:=.busy}):=(V.block l (Array.getElem?_eq_some_iff.1 T).1 (fun e=>hBl (by cases e;rfl))).trans T;have Hk:z.heap[D]? =some (.deferred (some [])):=(V.block D (Array.getElem?_eq_some_iff.1 S).1 (fun e=>hDB (by cases e;rfl))).trans S;have Ha:=R.kept V (ownsRow_ne_a R F (fun cur e=>Hi (Obj.cells.inj e).2.1));have Hq:l<z.heap.size:=(Array.getElem?_eq_some_iff.1 M).1;have He:Bl w0 y:=(O.alloc O.size _).grown U (by have:=O.size;simp;omega) (fun k e=>(Z.lt k e).1);have Hf:Bl w0 z:=He.grown V He.size (fun k e=>by cases e;exact h0B);have Ho:KeepsWalks W z:=((Hn.trans (KeepsWalks.alloc _ _)).trans (KeepsWalks.of_grownBy U (ownsRow_not_walk_a (Z.alloc _)))).trans (by rw [<- s];exact KeepsWalks.setCell _ _ _);clear s;refine⟨_,_,run_endRound none M,rfl,⟨⟨_,(World.putObj_heap_other hBl).trans Hr,?_,by simp⟩,World.putObj_heap_same Hq,(World.putObj_heap_other hDl).trans Hk,Hf.grown (grownBy_putObj_a _ _ _) Hf.size (fun k e=>by cases e;exact h0l)⟩,Ho.trans (KeepsWalks.putObj _ M rfl)⟩;have:=Ha.kept (grownBy_putObj_a z l (.loop {{QaR fn sv Bs D .ready with state:=.busy} with state:=if (none:Option Code).isNone then .ready else .done,pending:=none})) (ownsRow_ne_a Ha M (fun cur e=>by cases e));rw [Qd3];simpa [kCells] using this
theorem QcK (n:Nat)(hn:2<=n)(g:Nat)(lb:Array Value)(eg:∀args w,(callFunc g args).run Tryz.prog w=.ok (.enter g args) w)
  (S:List Ky ->Prop) (N:Nat) (hN:N<=maxLen) (hNb:N*24<=140737488355328) (w:World) (hseq:SeqGives Fence.wide (n - 1) Tryz.prog g lb Qa5 S N w):
  CallsIn Fence.wide n Tryz.prog 194 #[.slice none 0 0,.func (.func g) #[] lb] w fun e w'=>∃(v:Value) (y:List Ky),e=.returned v/\ S y/\ w'.ownsRow w.heap.size 208 2 v y.length (kRow y)/\ (v=.slice none 0 0↔y=[])/\ Bl w w':=by
 have F:203≠208:=by decide
 refine callsIn_of_wp_marks Tryz.func194 rfl trivial ?_ rfl;simp only [Tryz.ntmps194,List.size_toArray,List.length_cons,List.length_nil,Nat.reduceAdd,Nat.reduceSub,Array.replicate_succ,Array.replicate_zero,List.push_toArray,List.append_toArray,List.nil_append,List.cons_append];gi_wp2
 refine wpIn_rangeFunc ?_;intro r D;obtain⟨j,t⟩:=zE (w.alloc (.cells #[.slice none 0 0] 203));have G:j.heap.size=w.heap.size+1:=by rw [<- t];simp
 have I:j.heap[w.heap.size]? =some (.cells #[.slice none 0 0] 203 (0,0)):=by rw [<- t];exact World.alloc_heap_new w _
 have o:Bl w j:=by rw [<- t];exact(RowKit.Below.refl _ w).alloc zL _
 rw [t];obtain⟨m,z⟩:=zE ((j.alloc (.deferred (some []))).alloc (.loop (QaR r (.func (.func g) #[] lb) w.heap.size j.heap.size .ready)));have Z:∀k,k<j.heap.size ->m.heap[k]? =j.heap[k]? :=fun k hk=>by
  rw [<- z];exact(Below.heap_alloc _ _ k (by simp;omega)).trans (Below.heap_alloc _ _ k hk)
 have i:Bl w m:=by rw [<- z];exact(o.alloc o.size _).alloc (by have:=o.size;simp;omega) _
 have U:QfF w r (.func (.func g) #[] lb) w.heap.size (j.heap.size+1) j.heap.size [] m:=
  ⟨⟨_,(Z w.heap.size (by omega)).trans I,⟨rfl,.inl ⟨rfl,rfl⟩⟩,by simp⟩,
   by rw [<- z];have:=World.alloc_heap_new (j.alloc (.deferred (some []))) (.loop (QaR r (.func (.func g) #[] lb) w.heap.size j.heap.size .ready));rwa [World.size_alloc] at this,
   by rw [<- z];exact(Below.heap_alloc _ _ _ (by simp)).trans (World.alloc_heap_new j _),i⟩
 refine⟨j.heap.size+1,[{target:=.collected j.heap.size,args:=#[]}],m,{target:=.fn (.func g) lb,args:=#[.func (.yield (j.heap.size+1)) #[] #[]]},m,g,
  #[.func (.yield (j.heap.size+1)) #[] #[]]++lb,m,?_,?_,?_,?_,fun _=>by omega,?_⟩
 ·rw [<- z];exact run_enterLoop_outer _ _ _ _ _
 ·simp [resolve,go_sem]
 ·intro f' B;trivial
 ·simp [invoke,go_sem,eg]
 ·refine(hseq (j.heap.size+1) (QfF w r (.func (.func g) #[] lb) w.heap.size (j.heap.size+1) j.heap.size) m i (Qbx _ _ _ _ _ _ _ i.size)
   (fun pre x W hJ hl=>Qdc (n - 1 - 1) w r _ w.heap.size (j.heap.size+1) j.heap.size (by omega) (by omega) (by omega) zL (by omega) N hN hNb pre x W hJ hl) U).mono ?_
  rintro e s ⟨⟨v0,rfl⟩,y,V,u⟩;obtain⟨v,H,b,Y⟩:=u.box;have M:=run_endLoop (P:=Tryz.prog) u.L (by simp [QaR]);obtain⟨q,h⟩:∃q,s.putObj (j.heap.size+1) (.loop {QaR r (.func (.func g) #[] lb) w.heap.size j.heap.size .ready with state:=.exhausted})=q:=⟨_,rfl⟩;rw [h] at M;have O:s.grownBy q (some (j.heap.size+1)):=by rw [<- h];exact grownBy_putObj_a _ _ _
  have J:q.heap[w.heap.size]? =some (.cells #[v] 203 (0,0)):=by rw [<- h];exact(World.putObj_heap_other (by omega)).trans H
  have A:q.heap[j.heap.size]? =some (.deferred (some [])):=by rw [<- h];exact(World.putObj_heap_other (by omega)).trans u.K
  have Q:=b.kept O (ownsRow_ne_a b u.L (fun cur e=>by cases e));have E:Bl w q:=u.bw.grown O u.bw.size (fun k e=>by cases e;omega);obtain⟨X,C⟩:=cell_of_box_a J;have p:=hid Q;clear h b Q;refine⟨none,q,M,?_⟩;gi_wp2
  rw [<- G];refine⟨by simp,.inl ⟨_,_,rfl,run_takeDeferred A,?_⟩⟩;exact⟨_,results_tmp rfl _ _ _,v,y,rfl,V,p.kept (grownBy_putObj_a _ _ _) (ownsRow_ne_a p A (fun cur e=>by cases e)),Y,E.grown (grownBy_putObj_a _ _ _) E.size (fun k e=>by cases e;omega)⟩
theorem collectK (g:Nat)(lb:Array Value)(eg:∀args w,(callFunc g args).run Tryz.prog w=.ok (.enter g args) w)
  (S:List Ky ->Prop) (N:Nat) (hN:N<=maxLen) (hNb:N*24<=140737488355328) (w:World) (hseq:SeqGives Fence.wide 4 Tryz.prog g lb Qa5 S N w):
  Cl 179 #[.func (.func g) #[] lb] w fun e w'=>∃(v:Value) (j:List Ky),e=.returned v/\ S j/\ w'.ownsRow w.heap.size 208 2 v j.length (kRow j)/\ (v=.slice none 0 0↔j=[])/\ Bl w w':=by
 have m:=hid ((callsIn_wide (n:=5)).1 (QcK 5 (by omega) g lb eg S N hN hNb w hseq));go_enter Tryz.func179,Tryz.ntmps179;go_wp2_with fail;refine m.mono ?_;rintro e w' ⟨v,j,rfl,q,y,u,r⟩;have k:=hid (And.intro q (And.intro y (And.intro u r)));clear q y u r m;go_wp2_with fail;go_ret;exact⟨v,j,rfl,k.1,k.2.1,k.2.2.1,k.2.2.2⟩
theorem keysGivesK (Bm b nn:Nat)(f:Ky ->Option (Nat×Nat))(D0:DataW Value)(w:World)(hBm:Bm<w.heap.size)(hm:w.cell? ⟨Bm,0,none⟩=some (.map (some b)))(hF:FM w 208 Qa5 QaQ b nn f D0):
  SeqGives Fence.wide 4 Tryz.prog 181 #[.pointer (some ⟨Bm,0,none⟩)] Qa5 (QbF f) (Maps.size D0) w:=fun l J W hW hJ hY h0=>by
 have j:FM W 208 Qa5 QaQ b nn f D0:=⟨QeF hF.own (hW.block b hF.own.lt),hF.at',hF.cov,hF.ok⟩;exact Qgf 4 l Bm b nn f D0 J (by omega) hY W hJ ((hW.cell (p:=⟨Bm,0,none⟩) hBm).trans hm) j h0
theorem QbK (x y:Ky)(w:World):Cl 158 #[.agg #[.string x.1,.int .i64 x.2],.agg #[.string y.1,.int .i64 y.2]] w fun e w'=>e=.returned (.int .i64 (QeW x y))/\ Bw w w':=by
 obtain⟨s,k⟩:=x;obtain⟨q,m⟩:=y;dsimp only;obtain⟨W,u⟩:=zE ((w.alloc (.cells #[.string s,.int .i64 k] 208)).alloc (.cells #[.string q,.int .i64 m] 208));have b:Bw w W:=by rw [<- u];exact⟨Qae _ _ _,Nat.le_refl _⟩
 have t:Bx2 W w.heap.size (.string s) (.int .i64 k):=by rw [<- u];exact(Bx2.made w _ _ _).allocs _
 have o:Bx2 W (w.heap.size+1) (.string q) (.int .i64 m):=by rw [<- u];simpa using Bx2.made (w.alloc (.cells #[.string s,.int .i64 k] 208)) (.string q) (.int .i64 m) 208
 have v:=hid b;have h:=hid t;have g:=hid o;clear b t o;go_enter Tryz.func158,Tryz.ntmps158;go_wp2_with fail;try rw [u]
 clear u;have z:Hid (∀w',Bw W w' ->(Bw W w'/\ w'.cell? ⟨w.heap.size,0,none⟩=some (.string s)/\ w'.cell? ⟨w.heap.size,1,none⟩=some (.int .i64 k)/\ w'.cell? ⟨w.heap.size+1,0,none⟩=some (.string q)/\ w'.cell? ⟨w.heap.size+1,1,none⟩=some (.int .i64 m))):=hid (fun w' r=>by
  have x0:=h.bw r.1 h.lt;have p:=g.bw r.1 g.lt;exact⟨r,x0.c0,x0.c1,p.c0,p.c1⟩)
 refine zA z ⟨zI.drew,Nat.le_succ _⟩ (fun qh=> ?_);refine tZ 0 5 ?_;refine tZ 1 6 ?_;refine tZ 2 7 ?_;refine tZ 3 8 ?_;refine tZ 5 10 ?_;refine tZ 6 11 ?_;refine tZ 7 12 ?_;refine tZ 8 13 ?_;refine cZ 4 ?_;intro K j;go_simp;refine(Qko s q _).mono ?_;rintro e w1 ⟨rfl,rfl⟩;refine j.out _ _ qh (fun qh=> ?_);clear j K;try simp only [zP]
 refine cZ 9 ?_;intro K j;go_simp;refine(Qcn k m _).mono ?_;rintro e E ⟨rfl,rfl⟩;refine j.out _ _ qh (fun qh=> ?_);clear j K;try simp only [zP]
 refine cZ 10 ?_;intro K j;go_simp;have r:Bw W (W.drew.alloc (.cells #[.int .i64 (QbI s q),.int .i64 (QaU k m)] 3)):=⟨qh.1.1.alloc qh.1.1.size _,qh.1.2⟩;refine j.out _ _ (z _ r) (fun qh=> ?_);clear j K;try simp only [zP]
 refine cZ 11 ?_;intro K j;go_simp;refine(Qjr _ 2 2 (fun i=>if i=0 then QbI s q else QaU k m) _ (by omega) (fun i hi=> ?_)).mono ?_
 ·match i,hi with
  | 0,_=>simp
  | 1,_=>simp
 rintro e M ⟨rfl,rfl⟩;refine j.out _ _ qh (fun qh=> ?_);clear j K;try simp only [zP]
 refine tZ 12 4 ?_;refine zD ?_;have A:Hid (Bw w (W.drew.alloc (.cells #[.int .i64 (QbI s q),.int .i64 (QaU k m)] 3))):=hid ⟨v.1.trans (qh.1.1.mono v.1.size),Nat.le_trans v.2 qh.1.2⟩;clear qh r;go_wp2_with fail;go_ret;exact⟨QbA nz2,A⟩
instance:Inhabited Ky:=⟨(ByteArray.empty,0)⟩
theorem Qbz (x:Ky):(kCells x).length=2:=rfl
theorem kRow_len (ss:List Ky):(kRow ss).length=ss.length*2:=by
 induction ss with
 | nil=>rfl
 | cons x r ih=>simp only [kRow,List.flatMap_cons,List.length_append,List.length_cons] at*;rw [ih,Qbz];omega
theorem kRow_get:∀(ss:List Ky) (t:Nat),t<ss.length*2 ->(kRow ss)[t]? =some ((kCells ss.toArray[t/2]!)[t%2]!)
 | [],t,h=>by simp at h
 | x::r,t,h=>by
  rcases Nat.lt_or_ge t 2 with q|q
  ·have:t=0 \/t=1:=by omega
   rcases this with rfl|rfl<;>simp [kRow,kCells]
  ·obtain⟨u,rfl⟩:∃u,t=u+2:=⟨t - 2,by omega⟩;have y:=kRow_get r u (by simp at h;omega);have j:(u+2)/2=u/2+1:=by omega
   have k:(u+2)%2=u%2:=by omega
   rw [j,k];have v:u/2<r.length:=by simp at h;omega
   have m:(x::r).toArray[u/2+1]! =r.toArray[u/2]! :=by
    rw [getElem!_pos _ _ (by simp;omega),getElem!_pos _ _ (by simpa using v)];simp
   rw [m,<- y];simp [kRow,kCells]
theorem Qdw (ss:List Ky):(flatK kCells 2 ss.toArray).toList=kRow ss:=by
 apply List.ext_getElem?;intro t;by_cases h:t<ss.length*2
 ·rw [kRow_get ss t h];have j:t<(flatK kCells 2 ss.toArray).size:=by simpa using h
  have:=get_flatK kCells 2 ss.toArray t (by simpa using h);rw [getElem!_pos _ t j] at this;rw [Array.getElem?_toList,Array.getElem?_eq_getElem j,this]
 ·rw [List.getElem?_eq_none (by simp;omega),List.getElem?_eq_none (by rw [kRow_len];omega)]
theorem QbN{os:Array Obj}(d:Array Value)(hb:w.heap[g]? =some (.cells cur e fr)):
  (grow (putRow id (Sort.ahead w n) g 0 d) os).heap[g]? =some (.cells (putCells id 0 d cur) e fr):=by
 have j:g<w.heap.size:=(Array.getElem?_eq_some_iff.1 hb).1;rw [heap_grow_old _ _ (by simpa [putRow,mapBlock,Sort.ahead] using j)];simp [putRow,mapBlock,Sort.ahead,Array.getElem?_modify,hb,onCells]
theorem Qbi{os:Array Obj}(d:Array Value):w.grownBy (grow (putRow id (Sort.ahead w n) g 0 d) os) (some g):=by
 refine⟨rfl,rfl,rfl,by simp [grow,putRow,mapBlock,Sort.ahead],fun k hk hne=> ?_⟩;rw [heap_grow_old _ _ (by simpa [putRow,mapBlock,Sort.ahead] using hk)];have:g≠k:=fun e=>hne (by rw [e]);simp [putRow,mapBlock,Sort.ahead,Array.getElem?_modify,this]
theorem QdK (cur:Array Value)(ts:List Value)(h:ts.length<=cur.size):(putCells id 0 ts.toArray cur).toList.take ts.length=ts:=by
 apply List.ext_getElem?;intro j;by_cases k:j<ts.length
 ·rw [List.getElem?_take_of_lt k,Array.getElem?_toList];simp [putCells,k,show j<cur.size by omega]
 ·rw [List.getElem?_take_eq_none (by omega),List.getElem?_eq_none (by omega)]
theorem QfS:∀args w,(callFunc 158 args).run Tryz.prog w=.ok (.enter 158 args) w:=enters_of Tryz.func158 (by kernel_rfl) rfl
theorem Qev (blk off size:Nat)(w:World):CmpLays Tryz.prog 158 #[] kCells 2 QeW blk off size w:=fun m os dk _ x y=>
 (QbK x y _).mono fun e w' ⟨he,hb⟩=>⟨he,hb.grown⟩
theorem sortFuncK (B blk cap:Nat)(ss:List Ky)(w:World)(ho:w.ownsRow B 208 2 (.slice (some ⟨blk,0,none⟩) ss.length cap) ss.length (kRow ss))(hsz:ss.length<=1048576):
  Cl 180 #[.slice (some ⟨blk,0,none⟩) ss.length cap,.func (.func 158) #[] #[]] w fun e w'=>e=.returned (.tuple #[])/\∃ts:List Ky,ts.Perm ss/\ SortedIn (ltOf QeW) 0 ts.length ts.toArray/\ w'.ownsRow B 208 2 (.slice (some ⟨blk,0,none⟩) ss.length cap) ss.length (kRow ts)/\ w.grownBy w' (some blk):=by
 rcases ho.2 with ⟨o,_⟩|⟨Y,V,z,q,E,m,i,b,p,s⟩
 ·cases o
 cases q;have M:blk<w.heap.size:=(Array.getElem?_eq_some_iff.1 m).1;have A:HoldsK kCells 2 w blk 0 ss.toArray:=by
  intro t U;have y:t<ss.length*2:=by simpa using U
  refine⟨?_,by simp [World.frozen?,m]⟩;have k:(z.toList.take (ss.length*2))[t]? =(kRow ss)[t]? :=by rw [s]
  rw [List.getElem?_take_of_lt y,kRow_get ss t y] at k;have r:=get_flatK kCells 2 ss.toArray t (by simpa using y);rw [r];simp only [World.cell?,m,Nat.zero_add,Option.isSome_none,Bool.false_eq_true,if_false];rw [<- Array.getElem?_toList,k];rfl
 have u:=AnyQ.slices_SortFunc Tryz.sortK 2 Tryz.isAgg208 Tryz.sizeOf208 kCells Qbz (fun x v q=>by simp [kCells] at q;rcases q with rfl|rfl<;>rfl) QeW QaX.key.swo 158 #[] blk 0 cap ss.toArray w QfS (Qev blk 0 _ w) A M (by simp;omega);change Cl 180 _ _ _ at u;simp only [List.size_toArray] at u;refine u.mono ?_;rintro e w' ⟨rfl,d',n,Z,h,Q,rfl⟩;have j:d'.size=ss.length:=by simpa using h.1
 have O:d'.toList.Perm ss:=by
  have:=h.2.2;have k:d'.extract 0 ss.length=d':=by rw [<- j];simp
  have r:ss.toArray.extract 0 ss.length=ss.toArray:=by simp
  rw [k,r] at this;simpa using this
 refine⟨rfl,d'.toList,O,by simpa [j] using Q,⟨by rw [kRow_len];simp [j],.inr ⟨blk,cap,_,rfl,E,QbN _ m,i,b,by simp [putCells,p],?_⟩⟩,Qbi _⟩;have g:flatK kCells 2 d'=(kRow d'.toList).toArray:=by
  have:=Qdw d'.toList;simp only [Array.toArray_toList] at this;rw [<- this]
 rw [g];have:=QdK z (kRow d'.toList) (by rw [kRow_len];simp [j];omega);rw [kRow_len] at this;simpa [j] using this
theorem QcU(h:ts.Nodup)(hs:SortedIn (ltOf QeW) 0 ts.length ts.toArray):ts.Pairwise (fun x y=>QeW x y<0):=by
 have:=QaX.key.rises (d:=ts.toArray) (by simpa using hs) (by simpa using h);simpa using this
theorem Qcv (g:Nat)(lb:Array Value)(eg:∀args w,(callFunc g args).run Tryz.prog w=.ok (.enter g args) w)(N:Nat)(f:Ky ->Option (Nat×Nat))(w:World)(hN:N<=1048576)(hseq:SeqGives Fence.wide 4 Tryz.prog g lb Qa5 (QbF f) N w):
  Cl 156 #[.func (.func g) #[] lb,.func (.func 158) #[] #[]] w fun e w'=>∃(v:Value) (j:List Ky),e=.returned v/\ j.Pairwise (fun x y=>QeW x y<0)/\ (∀x,x∈j↔f x≠none)/\ j.length<=1048576/\ w'.ownsRow w.heap.size 208 2 v j.length (kRow j)/\ Bl w w':=by
 have o:=hid (collectK g lb eg _ N (by unfold maxLen;omega) (by omega) w (SeqGives.bounded hseq));go_enter Tryz.func156,Tryz.ntmps156;go_wp2_with fail;refine o.mono ?_;rintro e w1 ⟨v,b,rfl,⟨h,C⟩,q,I,t⟩;rcases q.2 with ⟨rfl,K⟩|⟨G,Z,X,rfl,H,B,r1,r2,D,F⟩
 ·have J:b=[]:=List.eq_nil_of_length_eq_zero K;subst J;have r:=hid t;have u:=hid h;have U:=hid q;have i:=AnyF.slices_SortFunc_none Tryz.sortK none 0 (.func (.func 158) #[] #[]) w1;change Cl 180 _ _ _ at i;have m:=hid i;clear t h q o i;go_wp2_with fail;refine m.mono ?_;rintro e L ⟨rfl,rfl⟩;clear m;go_wp2_with fail;go_ret;exact⟨_,[],rfl,List.Pairwise.nil,fun x=>u.2 x,by simp,U,r⟩
 ·have m:=hid (sortFuncK w.heap.size G Z b w1 q (by omega));have r:=hid t;have u:=hid h;have O:Hid (b.length<=1048576):=hid (by omega);have Y:=hid H;clear t h q o I;go_wp2_with fail;refine m.mono ?_;rintro e L ⟨rfl,j,A,E,s,p⟩;have Q:=hid s;have M:=hid (r.grown p r.size (fun k e=>by injection e with e;have:=Y.out;omega));have z:=hid A;have V:=hid E;clear s p A E m;go_wp2_with fail;go_ret;refine⟨_,j,rfl,QcU (z.nodup_iff.2 u.1) V,fun x=>by rw [z.mem_iff];exact u.2 x,by rw [z.length_eq];exact O,?_,M⟩;rw [z.length_eq];exact Q
theorem keysNilK (n l Bm:Nat)(J:List Ky ->World ->Prop)(W:World)(hJ:AbidesFrom W.heap.size J)(hm:W.cell? ⟨Bm,0,none⟩=some (.map none))(h0:J [] W):
  CallsIn Fence.wide n Tryz.prog 181 #[.func (.yield l) #[] #[],.pointer (some ⟨Bm,0,none⟩)] W fun e W'=>(∃v,e=.returned v)/\∃ss:List Ky,QbF (fun _=>(none:Option (Nat×Nat))) ss/\ J ss W':=by
 have k:=run_range_nilMap (P:=Tryz.prog) W 153 208 156 Tryz.underlying153;have j:∀ty,(Instr.next (.pointer (some ⟨W.heap.size,0,none⟩)) false ty).run Tryz.prog (W.alloc (.mapIter none 0 #[] 0))=_:=fun ty=>run_next_nilMap _ ty 0 0 #[];refine callsIn_of_wp Tryz.func181 rfl trivial ?_ rfl;simp only [Tryz.ntmps181,List.size_toArray,List.length_cons,List.length_nil,Nat.reduceAdd,Nat.reduceSub,Array.replicate_succ,Array.replicate_zero,List.push_toArray,List.append_toArray,List.nil_append,List.cons_append];gi_wp2
 refine wpIn_loop_rounds 1 ?_;rw [roundsIn_succ];gi_wp2
 go_end0;exact⟨⟨_,rfl⟩,[],⟨List.nodup_nil,fun x=>by simp⟩,hJ [] W _ none h0 (World.grownBy_alloc W _ none) (fun r e=>by cases e)⟩
theorem keysFnK (mb:Option Nat)(w:World):Cl 157 #[.map mb] w fun e w'=>e=.returned (.func (.func 181) #[] #[.pointer (some ⟨w.heap.size,0,none⟩)])/\ w'=w.alloc (.cells #[.map mb] 153):=by
 go_enter Tryz.func157,Tryz.ntmps157;go_wp2_with fail;go_ret;exact⟨rfl,rfl⟩
def Qiy (N:List Ky ->Option (Nat×Nat))(p:List Ky)(y:Ky):Option (Nat×Nat):=N (p++[y])
theorem Qcw (B c:Nat)(N:List Ky ->Option (Nat×Nat))(M:List Ky ->Dt ->Option ByteArray)(p:List Ky)(w:World)(hT:Tre w B N M c)(hc:c<=1048576):
  Cl 132 #[.agg #[.map (mF (N p)),.map (mS (N p))]] w fun e w'=>∃(v:Value) (j:List Ky),e=.returned v/\ j.Pairwise (fun x y=>QeW x y<0)/\ (∀x,x∈j↔Qiy N p x≠none)/\ j.length<=1048576/\ w'.ownsRow w.heap.size 208 2 v j.length (kRow j)/\ Bl w w':=by
 obtain⟨m,h⟩:=zE (mF (N p));obtain⟨K,I⟩:=zE (mS (N p));rw [h,I];have s:Hid (∀w1,Bl w w1 ->∀Bm,Bm<w1.heap.size ->w1.cell? ⟨Bm,0,none⟩=some (.map m) ->∃n,n<=1048576/\ SeqGives Fence.wide 4 Tryz.prog 181 #[.pointer (some ⟨Bm,0,none⟩)] Qa5 (QbF (Qiy N p)) n w1):=hid (fun w1 z Bm hBm k=>by
  cases e:N p with
  | some x=>
   obtain⟨D,U⟩:=(hT.bw z).kids p x e;have:m=some x.1:=by rw [<- h,e];rfl
   rw [this] at k;exact⟨Maps.size D,Nat.le_trans U.own.size_le hc,keysGivesK Bm x.1 c _ D w1 hBm k U⟩
  | none=>
   have:m=none:=by rw [<- h,e];rfl
   rw [this] at k;refine⟨0,by omega,fun l J W q hJ hY h0=> ?_⟩;have R:Qiy N p=fun _=>none:=funext fun y=>hT.up p y e;rw [R];exact keysNilK 4 l Bm J W hJ ((q.cell (p:=⟨Bm,0,none⟩) hBm).trans k) h0)
 obtain⟨W,q⟩:=zE (w.alloc (.cells #[.map m,.map K] 156));have O:Bl w W:=by rw [<- q];exact zO _ _
 have E:Bx2 W w.heap.size (.map m) (.map K):=by rw [<- q];exact Bx2.made _ _ _ _
 have k0:=E.c0;have b:=hid O;clear hT O E h I;go_enter Tryz.func132,Tryz.ntmps132;go_wp2_with fail;try rw [q]
 clear q;refine(keysFnK m W).mono ?_;rintro e w1 ⟨rfl,t⟩;have z:Bl W w1:=by rw [t];exact zO _ _
 have Q:w1.cell? ⟨W.heap.size,0,none⟩=some (.map m):=by rw [t];simp
 have L:W.heap.size<w1.heap.size:=by rw [t];simp
 have u:=hid (b.trans (z.mono b.size));obtain⟨n,T,H⟩:=s w1 u W.heap.size L Q;have A:=hid (Qcv _ _ (enters_of Tryz.func181 (by kernel_rfl) rfl) n (Qiy N p) w1 T H);clear H t z Q L k0 s;go_wp2_with fail;refine A.mono ?_;rintro e w2 ⟨v,j,rfl,G,k,Y,Z,V⟩;have o:=hid (And.intro G (And.intro k Y));have X:=hid (u.trans (V.mono u.size));have C:Hid (w2.ownsRow w.heap.size 208 2 v j.length (kRow j)):=hid (by
  obtain⟨q1,i⟩:=Z;refine⟨q1,?_⟩;rcases i with i|⟨g,F,P,e,S,r⟩
  ·exact .inl i
  ·exact .inr ⟨g,F,P,e,Nat.le_trans u.size S,r⟩)
 clear G k Y Z V A;go_wp2_with fail;go_ret;exact⟨v,j,rfl,o.1,o.2.1,o.2.2,C,X⟩
end Go.Proofs.YtgmjgboibfdaeaaGreatDoor
namespace Go.Proofs.YtgmjgboibfdaeaaGreatDoor.Ds
open Go.ChangeShapes Go.WideShapes Go.ChangeAt Go.RowKit Go.Maps Go.Sort Go.Lib Go.Shelf
variable {B cap g m n:Nat}{cur:Array Value}{e:TypeId}{fr:Nat×Nat}{ts:List Ky}{v:Value}{w:World}
theorem Qgf (n l Bm b nn:Nat)(f:Dt ->Option ByteArray)(D0:DataW Value)(J:List Dt ->World ->Prop)(hn:1<=n)
  (hY:∀pre x W,J pre W ->pre.length<Maps.size D0 ->YieldAt Fence.wide (n - 1) Tryz.prog l #[dtV x] W fun e W'=>e=.returned (.bool true)/\ J (pre++[x]) W'/\ KeepsWalks W W')
  (W:World) (hJ:AbidesFrom W.heap.size J) (hm:W.cell? ⟨Bm,0,none⟩=some (.map (some b))) (hF:FM W 104 dtV Qb1 b nn f D0) (h0:J [] W):
  CallsIn Fence.wide n Tryz.prog 187 #[.func (.yield l) #[] #[],.pointer (some ⟨Bm,0,none⟩)] W fun e W'=>(∃v,e=.returned v)/\∃j,QbF f j/\ J j W':=by
 have F:=hF.own;have u:=hid hF;have y:=hid hJ;have U:=hid hY;clear hF hJ hY;refine callsIn_of_wp Tryz.func187 rfl trivial ?_ rfl;simp only [Tryz.ntmps187,List.size_toArray,List.length_cons,List.length_nil,Nat.reduceAdd,Nat.reduceSub,Array.replicate_succ,Array.replicate_zero,List.push_toArray,List.append_toArray,List.nil_append,List.cons_append];gi_wp2_with (first
  | (gi_at_range;refine wpListIn_range_own _ rfl _ 154 rfl 104 165 Qa1 Tryz.underlying154 _ b nn _ rfl F ?_;intro w0 P K He)
  | gi_in)
 try go_frame
 gi_loopw [3] (fun _ wr=>∃(g:Lit ->Bool) (z:Nat) (j:List Dt),wr.ranges Tryz.prog 104 QhK b W.heap.size nn D0 g z/\ j.length+z<=Maps.size D0/\ QcJ 104 dtV f g j/\ J j wr)
  (fun _ wr=>wr.rangeLeft b W.heap.size)
 case atStart=>exact⟨_,_,[],P,by simp,QcJ.start u,y [] W w0 none h0 K (fun r e=>by cases e)⟩
 case round=>
  obtain⟨g,z,j,h,M,s,A⟩:=hrel;have o:=hid s;have i:=hid M;clear s M;gi_wp2_with (first
   | (gi_at_next;refine wpListIn_next_ranges _ rfl _ rfl 104 Qa1 QhK dtV id (fun key kl hk=>Qft hk) (fun v _ _=>⟨v,rfl⟩) b W.heap.size nn _ _ _ rfl h ?_ ?_)
   | gi_in)
  ·intro Hd B;gi_wp2
   go_end0;exact⟨⟨_,rfl⟩,j,o.done u B,A⟩
  ·intro xs m c kl yd yp k V X C hv H R D L S I;have Y:J j k:=y j wr k (some W.heap.size) A L (fun r e=>by cases e;exact⟨Nat.le_refl _,h.iter_walk⟩);obtain⟨t,q⟩:=zE (k.alloc (.cells #[.int .i64 xs,.int .i64 m] 104));have Z:J j t:=by rw [<- q];exact y j k _ none Y (World.grownBy_alloc k _ none) (fun r e=>by cases e)
   obtain⟨fn,Hc,Ha,Hb,T,E⟩:=U j (xs,m) t Z (by have:=i.out;omega);have p:Bx2 t k.heap.size (.int .i64 xs) (.int .i64 m):=by rw [<- q];exact Bx2.made _ _ _ _
   have O:=R.alloc (.cells #[.int .i64 xs,.int .i64 m] 104);rw [q] at O;obtain⟨q0,q1⟩:=p.q2;clear S p;dsimp only [dtV,QgF] at I T E ⊢;gi_wp2
   try rw [q]
   refine E.mono ?_;rintro e W3 ⟨rfl,G,N⟩;gi_wp2
   have Q:=O.of_walks N;go_roundw;case rel=>exact⟨_,V,j++[(xs,m)],Q,by have:=i.out;simp;omega,o.step u Qa1 (fun _ _=>Qco) X C H,G⟩
   case measure=>rw [Q.left_eq,h.left_eq];exact D
def kCells (x:Dt):List Value:=[.int .i64 x.1,.int .i64 x.2]
def kRow (ss:List Dt):List Value:=ss.flatMap kCells
theorem Qd3 (ss:List Dt)(x:Dt):kRow (ss++[x])=kRow ss++kCells x:=by simp [kRow]
theorem infoDt:(Tryz.prog.info? 104).map (fun i=>(i.zero,i.size,i.bytes))=some (some (.agg #[.int .i64 0,.int .i64 0]),2,16):=by kernel_rfl
def apA:Code:=(Code.region 2 #[{dst:=some 5,op:=Op.alloc 104,type:=0,pos:= "iter.go:51",after:=#[],guard:=none},{dst:=none,op:=Op.store 104 (Operand.tmp 5) (Operand.tmp 7),type:=0,pos:= "iter.go:51",after:=#[{on:=0,ground:=Ground.data},{on:=0,ground:=Ground.phase}],guard:=none}] false)
def apB:Code:=(Code.block 1 (Code.region 3 #[{dst:=some 8,op:=Op.load 193 (Operand.tmp 2),type:=193,pos:= "iter.go:52",after:=#[],guard:=none},{dst:=some 9,op:=Op.load 104 (Operand.tmp 5),type:=104,pos:= "iter.go:52",after:=#[],guard:=none},{dst:=some 10,op:=Op.buildSlice 193 1 #[(0,Operand.tmp 9)],type:=193,pos:= "iter.go:52",after:=#[{on:=1,ground:=Ground.data}],guard:=none},{dst:=some 11,op:=Op.call {callee:=Callee.builtin Builtin.append,args:=#[Operand.tmp 8,Operand.tmp 10],argTypes:=#[193,193]},type:=193,pos:= "iter.go:52",after:=#[{on:=0,ground:=Ground.data},{on:=2,ground:=Ground.data}],guard:=none},{dst:=none,op:=Op.store 193 (Operand.tmp 2) (Operand.tmp 11),type:=0,pos:= "iter.go:52",after:=#[{on:=3,ground:=Ground.data},{on:=3,ground:=Ground.chain},{on:=0,ground:=Ground.phase},{on:=1,ground:=Ground.phase},{on:=2,ground:=Ground.phase},{on:=3,ground:=Ground.phase}],guard:=none}] false))
def QaR (fn:FuncId)(sv:Value)(Bs D:Nat)(st:LoopState):Loop:=
 {state:=st,pending:=none,fn,tmps:=#[.slice none 0 0,sv,.pointer (some ⟨Bs,0,none⟩),undef,.slice none 0 0,undef,sv,undef,undef,undef,undef,undef,undef],params:=#[7],assign:=apA,body:=apB,defers:=D}
structure QfF (w0:World)(fn:FuncId)(sv:Value)(Bs l D:Nat)(ss:List Dt)(W:World):Prop where
 box:∃v,W.heap[Bs]? =some (.cells #[v] 193 (0,0))/\ W.ownsRow w0.heap.size 104 2 v ss.length (kRow ss)/\ (v=.slice none 0 0↔ss=[])
 L:W.heap[l]? =some (.loop (QaR fn sv Bs D .ready))
 K:W.heap[D]? =some (.deferred (some []))
 bw:Bl w0 W
theorem Qbx (w0:World)(fn:FuncId)(sv:Value)(Bs l D B:Nat)(hB:w0.heap.size<=B):AbidesFrom B (QfF w0 fn sv Bs l D):=fun s W W' row h hg hrow=>by
 have j:∀r,row=some r ->∃o:Obj,W.heap[r]? =some o/\ o.isWalk=true:=fun r e=>(hrow r e).2;obtain⟨v,m,u,q⟩:=h.box;exact⟨⟨v,(grownBy_keeps hg j m rfl).trans m,ownsRow_abides_a u hg j,q⟩,(grownBy_keeps hg j h.L rfl).trans h.L,(grownBy_keeps hg j h.K rfl).trans h.K,h.bw.grown hg h.bw.size (fun k e=>Nat.le_trans hB (hrow k e).1)⟩
theorem Qdc (m:Nat)(w0:World)(fn:FuncId)(sv:Value)(Bs l D:Nat)(hBl:Bs≠l)(hDl:D≠l)(hDB:D≠Bs)(h0B:w0.heap.size<=Bs)(h0l:w0.heap.size<=l)
    (N:Nat) (hN:N<=maxLen) (hNb:N*16<=140737488355328) (ss:List Dt) (x:Dt) (W:World) (h:QfF w0 fn sv Bs l D ss W) (hlen:ss.length<N):
    YieldAt Fence.wide m Tryz.prog l #[dtV x] W fun e W'=>e=.returned (.bool true)/\ QfF w0 fn sv Bs l D (ss++[x]) W'/\ KeepsWalks W W':=by
  have Hi:193≠104:=by decide
  obtain⟨i0,hi,Hs,Ht,Hu⟩:=info_parts infoDt;refine⟨fn,#[.slice none 0 0,sv,.pointer (some ⟨Bs,0,none⟩),undef,.slice none 0 0,undef,sv,dtV x,undef,undef,undef,undef,undef],apA,apB,by simpa [QaR] using run_yield (P:=Tryz.prog) (args:=#[dtV x]) h.L rfl,roundIn_of_wpIn trivial ?_⟩;obtain⟨xs,p⟩:=x;obtain⟨g,J⟩:=zE (W.alloc (.cells #[.int .i64 xs,.int .i64 p] 104));have u:QfF w0 fn sv Bs l D ss g:=by rw [<- J];exact Qbx w0 fn sv Bs l D w0.heap.size zL ss W _ none h (World.grownBy_alloc W _ none) (fun r e=>by cases e)
  have Hh:KeepsWalks W g:=by rw [<- J];exact KeepsWalks.alloc _ _
  have A:Bx2 g W.heap.size (.int .i64 xs) (.int .i64 p):=by rw [<- J];exact Bx2.made _ _ _ _
  have Hz:l<W.heap.size:=(Array.getElem?_eq_some_iff.1 h.L).1;obtain⟨v,hv,B,_⟩:=u.box;have hl:l<g.heap.size:=(Array.getElem?_eq_some_iff.1 u.L).1;have Hl:=run_beginRound (P:=Tryz.prog) u.L rfl;obtain⟨q,i⟩:∃q,g.putObj l (.loop {QaR fn sv Bs D .ready with state:=.busy})=q:=⟨_,rfl⟩;rw [i] at Hl;have Q:g.grownBy q (some l):=by rw [<- i];exact grownBy_putObj_a _ _ _
  have Hn:KeepsWalks W q:=Hh.trans (by rw [<- i];exact KeepsWalks.putObj _ u.L rfl);have Y:q.heap[Bs]? =some (.cells #[v] 193 (0,0)):=by rw [<- i];exact(World.putObj_heap_other hBl).trans hv
  have H:q.heap[D]? =some (.deferred (some [])):=by rw [<- i];exact(World.putObj_heap_other hDl).trans u.K
  have I:q.heap[l]? =some (.loop {QaR fn sv Bs D .ready with state:=.busy}):=by rw [<- i];exact World.putObj_heap_same hl
  have C:q.ownsRow w0.heap.size 104 2 v ss.length (kRow ss):=B.kept Q (ownsRow_ne_a B u.L (fun cur e=>by cases e));have O:Bl w0 q:=u.bw.grown Q u.bw.size (fun k e=>by cases e;exact h0l);have G:q.heap[W.heap.size]? =g.heap[W.heap.size]? :=Q.block _ A.lt (fun e=>by injection e with e;omega);have q0:q.cell? ⟨W.heap.size,0,none⟩=some (.int .i64 xs):=(World.cell?_of_block (a:=⟨W.heap.size,0,none⟩) G).trans A.c0;have q1:q.cell? ⟨W.heap.size,1,none⟩=some (.int .i64 p):=(World.cell?_of_block (a:=⟨W.heap.size,1,none⟩) G).trans A.c1;obtain⟨Hv,Hx⟩:=cell_of_box_a Y;have Hb:Bs<q.heap.size:=(Array.getElem?_eq_some_iff.1 Y).1;have Hp:l<q.heap.size:=(Array.getElem?_eq_some_iff.1 I).1;have Hc:D<q.heap.size:=(Array.getElem?_eq_some_iff.1 H).1;have ne_of:∀{j:Nat} {o:Obj},q.heap[j]? =some o ->(∀cur,o≠.cells cur 104 (0,0)) ->some j≠v.ownBlock:=fun hj hno=>by
    rcases ownsRow_ne_a C hj hno with e|e
    · rw [e];simp
    · exact fun e'=>e e'.symm
  have Z:=hid C;have HZ:=hid O.size;clear i B C A G Q Hh;unfold apA;dsimp only [dtV,QgF];gi_wp2_with gi_round_op_a
  unfold apB;gi_wp2_with (first
    | (gi_at_builtin;refine wpListIn_append_own _ rfl _ _ 193 rfl w0.heap.size 104 i0 (.agg #[.int .i64 0,.int .i64 0]) 2 16 Tryz.underlying193 hi Hs Ht Hu rfl (by decide) _ _ _ rfl (Z.alloc _) ⟨q.heap.size,0,none⟩ 1 1 [.int .i64 xs,.int .i64 p] rfl rfl (cell_two_new _ _ _ _) (by simp [Value.oneCell']) (by omega) (by omega) (by have:=HZ.out;simp;omega) ?_;intro v' y X Hg Hj
       have F:y.heap[Bs]? =some (.cells #[v] 193 (0,0)):=(Hg.block Bs (by simp;omega) (ne_of Y (fun cur e=>Hi (Obj.cells.inj e).2.1))).trans ((Below.heap_alloc _ _ Bs Hb).trans Y)
       obtain⟨Hw,Hy⟩:=cell_of_box_a F
       obtain⟨b,t,E,rfl,Hd,Hm,H0,H1,H2,H3⟩:∃b t E,v'=.slice (some ⟨b,0,none⟩) (ss.length+1) t/\ w0.heap.size<=b/\ y.heap[b]? =some (.cells E 104 (0,0))/\ ss.length+1<=t/\ t<=maxLen/\ E.size=t*2/\ E.toList.take ((ss.length+1)*2)=kRow ss++[.int .i64 xs,.int .i64 p]:=by
         rcases X.2 with ⟨_,h0⟩|h'
         · exact absurd h0 (by omega)
         · exact h'
       have R:=hid X
       clear X
       try go_frame)
    | gi_round_op_a)
  have U:(q.alloc (.cells #[.int .i64 xs,.int .i64 p] 104)).grownBy y v.ownBlock:=Hg;have T:y.heap[l]? =some (.loop {QaR fn sv Bs D .ready with state:=.busy}):=(U.block l (by simp;omega) (ne_of I (fun cur e=>by cases e))).trans ((Below.heap_alloc _ _ l Hp).trans I);have S:y.heap[D]? =some (.deferred (some [])):=(U.block D (by simp;omega) (ne_of H (fun cur e=>by cases e))).trans ((Below.heap_alloc _ _ D Hc).trans H);obtain⟨z,s⟩:=zE (y.setCell ⟨Bs,0,none⟩ (.slice (some ⟨b,0,none⟩) (ss.length+1) t));rw [s];have V:y.grownBy z (some Bs):=by rw [<- s];exact grownBy_setCell0_a _ _ _
  have Hr:z.heap[Bs]? =some (.cells #[.slice (some ⟨b,0,none⟩) (ss.length+1) t] 193 (0,0)):=by rw [<- s];exact heap_setCell_box_a _ F
  have M:z.heap[l]? =some (.loop {QaR fn sv Bs D .ready with state:=.busy}):=(V.block l (Array.getElem?_eq_some_iff.1 T).1 (fun e=>hBl (by cases e;rfl))).trans T;have Hk:z.heap[D]? =some (.deferred (some [])):=(V.block D (Array.getElem?_eq_some_iff.1 S).1 (fun e=>hDB (by cases e;rfl))).trans S;have Ha:=R.kept V (ownsRow_ne_a R F (fun cur e=>Hi (Obj.cells.inj e).2.1));have Hq:l<z.heap.size:=(Array.getElem?_eq_some_iff.1 M).1;have He:Bl w0 y:=(O.alloc O.size _).grown U (by have:=O.size;simp;omega) (fun k e=>(Z.lt k e).1);have Hf:Bl w0 z:=He.grown V He.size (fun k e=>by cases e;exact h0B);have Ho:KeepsWalks W z:=((Hn.trans (KeepsWalks.alloc _ _)).trans (KeepsWalks.of_grownBy U (ownsRow_not_walk_a (Z.alloc _)))).trans (by rw [<- s];exact KeepsWalks.setCell _ _ _);clear s;refine⟨_,_,run_endRound none M,rfl,⟨⟨_,(World.putObj_heap_other hBl).trans Hr,?_,by simp⟩,World.putObj_heap_same Hq,(World.putObj_heap_other hDl).trans Hk,Hf.grown (grownBy_putObj_a _ _ _) Hf.size (fun k e=>by cases e;exact h0l)⟩,Ho.trans (KeepsWalks.putObj _ M rfl)⟩;have:=Ha.kept (grownBy_putObj_a z l (.loop {{QaR fn sv Bs D .ready with state:=.busy} with state:=if (none:Option Code).isNone then .ready else .done,pending:=none})) (ownsRow_ne_a Ha M (fun cur e=>by cases e));rw [Qd3];simpa [kCells] using this
theorem QcK (n:Nat)(hn:2<=n)(g:Nat)(lb:Array Value)(eg:∀args w,(callFunc g args).run Tryz.prog w=.ok (.enter g args) w)
  (S:List Dt ->Prop) (N:Nat) (hN:N<=maxLen) (hNb:N*16<=140737488355328) (w:World) (hseq:SeqGives Fence.wide (n - 1) Tryz.prog g lb dtV S N w):
  CallsIn Fence.wide n Tryz.prog 186 #[.slice none 0 0,.func (.func g) #[] lb] w fun e w'=>∃(v:Value) (y:List Dt),e=.returned v/\ S y/\ w'.ownsRow w.heap.size 104 2 v y.length (kRow y)/\ (v=.slice none 0 0↔y=[])/\ Bl w w':=by
 have F:193≠104:=by decide
 refine callsIn_of_wp_marks Tryz.func186 rfl trivial ?_ rfl;simp only [Tryz.ntmps186,List.size_toArray,List.length_cons,List.length_nil,Nat.reduceAdd,Nat.reduceSub,Array.replicate_succ,Array.replicate_zero,List.push_toArray,List.append_toArray,List.nil_append,List.cons_append];gi_wp2
 refine wpIn_rangeFunc ?_;intro r D;obtain⟨j,t⟩:=zE (w.alloc (.cells #[.slice none 0 0] 193));have G:j.heap.size=w.heap.size+1:=by rw [<- t];simp
 have I:j.heap[w.heap.size]? =some (.cells #[.slice none 0 0] 193 (0,0)):=by rw [<- t];exact World.alloc_heap_new w _
 have o:Bl w j:=by rw [<- t];exact(RowKit.Below.refl _ w).alloc zL _
 rw [t];obtain⟨m,z⟩:=zE ((j.alloc (.deferred (some []))).alloc (.loop (QaR r (.func (.func g) #[] lb) w.heap.size j.heap.size .ready)));have Z:∀k,k<j.heap.size ->m.heap[k]? =j.heap[k]? :=fun k hk=>by
  rw [<- z];exact(Below.heap_alloc _ _ k (by simp;omega)).trans (Below.heap_alloc _ _ k hk)
 have i:Bl w m:=by rw [<- z];exact(o.alloc o.size _).alloc (by have:=o.size;simp;omega) _
 have U:QfF w r (.func (.func g) #[] lb) w.heap.size (j.heap.size+1) j.heap.size [] m:=
  ⟨⟨_,(Z w.heap.size (by omega)).trans I,⟨rfl,.inl ⟨rfl,rfl⟩⟩,by simp⟩,
   by rw [<- z];have:=World.alloc_heap_new (j.alloc (.deferred (some []))) (.loop (QaR r (.func (.func g) #[] lb) w.heap.size j.heap.size .ready));rwa [World.size_alloc] at this,
   by rw [<- z];exact(Below.heap_alloc _ _ _ (by simp)).trans (World.alloc_heap_new j _),i⟩
 refine⟨j.heap.size+1,[{target:=.collected j.heap.size,args:=#[]}],m,{target:=.fn (.func g) lb,args:=#[.func (.yield (j.heap.size+1)) #[] #[]]},m,g,
  #[.func (.yield (j.heap.size+1)) #[] #[]]++lb,m,?_,?_,?_,?_,fun _=>by omega,?_⟩
 ·rw [<- z];exact run_enterLoop_outer _ _ _ _ _
 ·simp [resolve,go_sem]
 ·intro f' B;trivial
 ·simp [invoke,go_sem,eg]
 ·refine(hseq (j.heap.size+1) (QfF w r (.func (.func g) #[] lb) w.heap.size (j.heap.size+1) j.heap.size) m i (Qbx _ _ _ _ _ _ _ i.size)
   (fun pre x W hJ hl=>Qdc (n - 1 - 1) w r _ w.heap.size (j.heap.size+1) j.heap.size (by omega) (by omega) (by omega) zL (by omega) N hN hNb pre x W hJ hl) U).mono ?_
  rintro e s ⟨⟨v0,rfl⟩,y,V,u⟩;obtain⟨v,H,b,Y⟩:=u.box;have M:=run_endLoop (P:=Tryz.prog) u.L (by simp [QaR]);obtain⟨q,h⟩:∃q,s.putObj (j.heap.size+1) (.loop {QaR r (.func (.func g) #[] lb) w.heap.size j.heap.size .ready with state:=.exhausted})=q:=⟨_,rfl⟩;rw [h] at M;have O:s.grownBy q (some (j.heap.size+1)):=by rw [<- h];exact grownBy_putObj_a _ _ _
  have J:q.heap[w.heap.size]? =some (.cells #[v] 193 (0,0)):=by rw [<- h];exact(World.putObj_heap_other (by omega)).trans H
  have A:q.heap[j.heap.size]? =some (.deferred (some [])):=by rw [<- h];exact(World.putObj_heap_other (by omega)).trans u.K
  have Q:=b.kept O (ownsRow_ne_a b u.L (fun cur e=>by cases e));have E:Bl w q:=u.bw.grown O u.bw.size (fun k e=>by cases e;omega);obtain⟨X,C⟩:=cell_of_box_a J;have p:=hid Q;clear h b Q;refine⟨none,q,M,?_⟩;gi_wp2
  rw [<- G];refine⟨by simp,.inl ⟨_,_,rfl,run_takeDeferred A,?_⟩⟩;exact⟨_,results_tmp rfl _ _ _,v,y,rfl,V,p.kept (grownBy_putObj_a _ _ _) (ownsRow_ne_a p A (fun cur e=>by cases e)),Y,E.grown (grownBy_putObj_a _ _ _) E.size (fun k e=>by cases e;omega)⟩
theorem collectK (g:Nat)(lb:Array Value)(eg:∀args w,(callFunc g args).run Tryz.prog w=.ok (.enter g args) w)
  (S:List Dt ->Prop) (N:Nat) (hN:N<=maxLen) (hNb:N*16<=140737488355328) (w:World) (hseq:SeqGives Fence.wide 4 Tryz.prog g lb dtV S N w):
  Cl 169 #[.func (.func g) #[] lb] w fun e w'=>∃(v:Value) (j:List Dt),e=.returned v/\ S j/\ w'.ownsRow w.heap.size 104 2 v j.length (kRow j)/\ (v=.slice none 0 0↔j=[])/\ Bl w w':=by
 have m:=hid ((callsIn_wide (n:=5)).1 (QcK 5 (by omega) g lb eg S N hN hNb w hseq));go_enter Tryz.func169,Tryz.ntmps169;go_wp2_with fail;refine m.mono ?_;rintro e w' ⟨v,j,rfl,q,y,u,r⟩;have k:=hid (And.intro q (And.intro y (And.intro u r)));clear q y u r m;go_wp2_with fail;go_ret;exact⟨v,j,rfl,k.1,k.2.1,k.2.2.1,k.2.2.2⟩
theorem keysGivesK (Bm b nn:Nat)(f:Dt ->Option ByteArray)(D0:DataW Value)(w:World)(hBm:Bm<w.heap.size)(hm:w.cell? ⟨Bm,0,none⟩=some (.map (some b)))(hF:FM w 104 dtV Qb1 b nn f D0):
  SeqGives Fence.wide 4 Tryz.prog 187 #[.pointer (some ⟨Bm,0,none⟩)] dtV (QbF f) (Maps.size D0) w:=fun l J W hW hJ hY h0=>by
 have j:FM W 104 dtV Qb1 b nn f D0:=⟨QeF hF.own (hW.block b hF.own.lt),hF.at',hF.cov,hF.ok⟩;exact Qgf 4 l Bm b nn f D0 J (by omega) hY W hJ ((hW.cell (p:=⟨Bm,0,none⟩) hBm).trans hm) j h0
theorem QbK (x y:Dt)(w:World):Cl 151 #[.agg #[.int .i64 x.1,.int .i64 x.2],.agg #[.int .i64 y.1,.int .i64 y.2]] w fun e w'=>e=.returned (.int .i64 (Qb6 x y))/\ Bw w w':=by
 obtain⟨s,k⟩:=x;obtain⟨q,m⟩:=y;dsimp only;obtain⟨W,u⟩:=zE ((w.alloc (.cells #[.int .i64 s,.int .i64 k] 104)).alloc (.cells #[.int .i64 q,.int .i64 m] 104));have b:Bw w W:=by rw [<- u];exact⟨Qae _ _ _,Nat.le_refl _⟩
 have t:Bx2 W w.heap.size (.int .i64 s) (.int .i64 k):=by rw [<- u];exact(Bx2.made w _ _ _).allocs _
 have o:Bx2 W (w.heap.size+1) (.int .i64 q) (.int .i64 m):=by rw [<- u];simpa using Bx2.made (w.alloc (.cells #[.int .i64 s,.int .i64 k] 104)) (.int .i64 q) (.int .i64 m) 104
 have v:=hid b;have h:=hid t;have g:=hid o;clear b t o;go_enter Tryz.func151,Tryz.ntmps151;go_wp2_with fail;try rw [u]
 clear u;have z:Hid (∀w',Bw W w' ->(Bw W w'/\ w'.cell? ⟨w.heap.size,0,none⟩=some (.int .i64 s)/\ w'.cell? ⟨w.heap.size,1,none⟩=some (.int .i64 k)/\ w'.cell? ⟨w.heap.size+1,0,none⟩=some (.int .i64 q)/\ w'.cell? ⟨w.heap.size+1,1,none⟩=some (.int .i64 m))):=hid (fun w' r=>by
  have x0:=h.bw r.1 h.lt;have p:=g.bw r.1 g.lt;exact⟨r,x0.c0,x0.c1,p.c0,p.c1⟩)
 refine zA z ⟨zI.drew,Nat.le_succ _⟩ (fun qh=> ?_);refine tZ 0 5 ?_;refine tZ 1 6 ?_;refine tZ 2 7 ?_;refine tZ 3 8 ?_;refine tZ 5 10 ?_;refine tZ 6 11 ?_;refine tZ 7 12 ?_;refine tZ 8 13 ?_;refine cZ 4 ?_;intro K j;go_simp;refine(Qcn s q _).mono ?_;rintro e w1 ⟨rfl,rfl⟩;refine j.out _ _ qh (fun qh=> ?_);clear j K;try simp only [zP]
 refine cZ 9 ?_;intro K j;go_simp;refine(Qcn k m _).mono ?_;rintro e E ⟨rfl,rfl⟩;refine j.out _ _ qh (fun qh=> ?_);clear j K;try simp only [zP]
 refine cZ 10 ?_;intro K j;go_simp;have r:Bw W (W.drew.alloc (.cells #[.int .i64 (QaU s q),.int .i64 (QaU k m)] 3)):=⟨qh.1.1.alloc qh.1.1.size _,qh.1.2⟩;refine j.out _ _ (z _ r) (fun qh=> ?_);clear j K;try simp only [zP]
 refine cZ 11 ?_;intro K j;go_simp;refine(Qjr _ 2 2 (fun i=>if i=0 then QaU s q else QaU k m) _ (by omega) (fun i hi=> ?_)).mono ?_
 ·match i,hi with
  | 0,_=>simp
  | 1,_=>simp
 rintro e M ⟨rfl,rfl⟩;refine j.out _ _ qh (fun qh=> ?_);clear j K;try simp only [zP]
 refine tZ 12 4 ?_;refine zD ?_;have A:Hid (Bw w (W.drew.alloc (.cells #[.int .i64 (QaU s q),.int .i64 (QaU k m)] 3))):=hid ⟨v.1.trans (qh.1.1.mono v.1.size),Nat.le_trans v.2 qh.1.2⟩;clear qh r;go_wp2_with fail;go_ret;exact⟨QbA nz2,A⟩
theorem Qbz (x:Dt):(kCells x).length=2:=rfl
theorem kRow_len (ss:List Dt):(kRow ss).length=ss.length*2:=by
 induction ss with
 | nil=>rfl
 | cons x r ih=>simp only [kRow,List.flatMap_cons,List.length_append,List.length_cons] at*;rw [ih,Qbz];omega
theorem kRow_get:∀(ss:List Dt) (t:Nat),t<ss.length*2 ->(kRow ss)[t]? =some ((kCells ss.toArray[t/2]!)[t%2]!)
 | [],t,h=>by simp at h
 | x::r,t,h=>by
  rcases Nat.lt_or_ge t 2 with q|q
  ·have:t=0 \/t=1:=by omega
   rcases this with rfl|rfl<;>simp [kRow,kCells]
  ·obtain⟨u,rfl⟩:∃u,t=u+2:=⟨t - 2,by omega⟩;have y:=kRow_get r u (by simp at h;omega);have j:(u+2)/2=u/2+1:=by omega
   have k:(u+2)%2=u%2:=by omega
   rw [j,k];have v:u/2<r.length:=by simp at h;omega
   have m:(x::r).toArray[u/2+1]! =r.toArray[u/2]! :=by
    rw [getElem!_pos _ _ (by simp;omega),getElem!_pos _ _ (by simpa using v)];simp
   rw [m,<- y];simp [kRow,kCells]
theorem Qdw (ss:List Dt):(flatK kCells 2 ss.toArray).toList=kRow ss:=by
 apply List.ext_getElem?;intro t;by_cases h:t<ss.length*2
 ·rw [kRow_get ss t h];have j:t<(flatK kCells 2 ss.toArray).size:=by simpa using h
  have:=get_flatK kCells 2 ss.toArray t (by simpa using h);rw [getElem!_pos _ t j] at this;rw [Array.getElem?_toList,Array.getElem?_eq_getElem j,this]
 ·rw [List.getElem?_eq_none (by simp;omega),List.getElem?_eq_none (by rw [kRow_len];omega)]
theorem QbN{os:Array Obj}(d:Array Value)(hb:w.heap[g]? =some (.cells cur e fr)):
  (grow (putRow id (Sort.ahead w n) g 0 d) os).heap[g]? =some (.cells (putCells id 0 d cur) e fr):=by
 have j:g<w.heap.size:=(Array.getElem?_eq_some_iff.1 hb).1;rw [heap_grow_old _ _ (by simpa [putRow,mapBlock,Sort.ahead] using j)];simp [putRow,mapBlock,Sort.ahead,Array.getElem?_modify,hb,onCells]
theorem Qbi{os:Array Obj}(d:Array Value):w.grownBy (grow (putRow id (Sort.ahead w n) g 0 d) os) (some g):=by
 refine⟨rfl,rfl,rfl,by simp [grow,putRow,mapBlock,Sort.ahead],fun k hk hne=> ?_⟩;rw [heap_grow_old _ _ (by simpa [putRow,mapBlock,Sort.ahead] using hk)];have:g≠k:=fun e=>hne (by rw [e]);simp [putRow,mapBlock,Sort.ahead,Array.getElem?_modify,this]
theorem QdK (cur:Array Value)(ts:List Value)(h:ts.length<=cur.size):(putCells id 0 ts.toArray cur).toList.take ts.length=ts:=by
 apply List.ext_getElem?;intro j;by_cases k:j<ts.length
 ·rw [List.getElem?_take_of_lt k,Array.getElem?_toList];simp [putCells,k,show j<cur.size by omega]
 ·rw [List.getElem?_take_eq_none (by omega),List.getElem?_eq_none (by omega)]
theorem QfS:∀args w,(callFunc 151 args).run Tryz.prog w=.ok (.enter 151 args) w:=enters_of Tryz.func151 (by kernel_rfl) rfl
theorem Qev (blk off size:Nat)(w:World):CmpLays Tryz.prog 151 #[] kCells 2 Qb6 blk off size w:=fun m os dk _ x y=>
 (QbK x y _).mono fun e w' ⟨he,hb⟩=>⟨he,hb.grown⟩
theorem sortFuncK (B blk cap:Nat)(ss:List Dt)(w:World)(ho:w.ownsRow B 104 2 (.slice (some ⟨blk,0,none⟩) ss.length cap) ss.length (kRow ss))(hsz:ss.length<=1048576):
  Cl 171 #[.slice (some ⟨blk,0,none⟩) ss.length cap,.func (.func 151) #[] #[]] w fun e w'=>e=.returned (.tuple #[])/\∃ts:List Dt,ts.Perm ss/\ SortedIn (ltOf Qb6) 0 ts.length ts.toArray/\ w'.ownsRow B 104 2 (.slice (some ⟨blk,0,none⟩) ss.length cap) ss.length (kRow ts)/\ w.grownBy w' (some blk):=by
 rcases ho.2 with ⟨o,_⟩|⟨Y,V,z,q,E,m,i,b,p,s⟩
 ·cases o
 cases q;have M:blk<w.heap.size:=(Array.getElem?_eq_some_iff.1 m).1;have A:HoldsK kCells 2 w blk 0 ss.toArray:=by
  intro t U;have y:t<ss.length*2:=by simpa using U
  refine⟨?_,by simp [World.frozen?,m]⟩;have k:(z.toList.take (ss.length*2))[t]? =(kRow ss)[t]? :=by rw [s]
  rw [List.getElem?_take_of_lt y,kRow_get ss t y] at k;have r:=get_flatK kCells 2 ss.toArray t (by simpa using y);rw [r];simp only [World.cell?,m,Nat.zero_add,Option.isSome_none,Bool.false_eq_true,if_false];rw [<- Array.getElem?_toList,k];rfl
 have u:=AnyQ.slices_SortFunc Tryz.sortD 2 Tryz.isAgg104 Tryz.sizeOf104 kCells Qbz (fun x v q=>by simp [kCells] at q;rcases q with rfl|rfl<;>rfl) Qb6 QaX.dot.swo 151 #[] blk 0 cap ss.toArray w QfS (Qev blk 0 _ w) A M (by simp;omega);change Cl 171 _ _ _ at u;simp only [List.size_toArray] at u;refine u.mono ?_;rintro e w' ⟨rfl,d',n,Z,h,Q,rfl⟩;have j:d'.size=ss.length:=by simpa using h.1
 have O:d'.toList.Perm ss:=by
  have:=h.2.2;have k:d'.extract 0 ss.length=d':=by rw [<- j];simp
  have r:ss.toArray.extract 0 ss.length=ss.toArray:=by simp
  rw [k,r] at this;simpa using this
 refine⟨rfl,d'.toList,O,by simpa [j] using Q,⟨by rw [kRow_len];simp [j],.inr ⟨blk,cap,_,rfl,E,QbN _ m,i,b,by simp [putCells,p],?_⟩⟩,Qbi _⟩;have g:flatK kCells 2 d'=(kRow d'.toList).toArray:=by
  have:=Qdw d'.toList;simp only [Array.toArray_toList] at this;rw [<- this]
 rw [g];have:=QdK z (kRow d'.toList) (by rw [kRow_len];simp [j];omega);rw [kRow_len] at this;simpa [j] using this
theorem QcU {ts:List Dt}(h:ts.Nodup)(hs:SortedIn (ltOf Qb6) 0 ts.length ts.toArray):ts.Pairwise (fun x y=>Qb6 x y<0):=by
 have:=QaX.dot.rises (d:=ts.toArray) (by simpa using hs) (by simpa using h);simpa using this
theorem Qcv (g:Nat)(lb:Array Value)(eg:∀args w,(callFunc g args).run Tryz.prog w=.ok (.enter g args) w)(N:Nat)(f:Dt ->Option ByteArray)(w:World)(hN:N<=1048576)(hseq:SeqGives Fence.wide 4 Tryz.prog g lb dtV (QbF f) N w):
  Cl 149 #[.func (.func g) #[] lb,.func (.func 151) #[] #[]] w fun e w'=>∃(v:Value) (j:List Dt),e=.returned v/\ j.Pairwise (fun x y=>Qb6 x y<0)/\ (∀x,x∈j↔f x≠none)/\ j.length<=1048576/\ w'.ownsRow w.heap.size 104 2 v j.length (kRow j)/\ Bl w w':=by
 have o:=hid (collectK g lb eg _ N (by unfold maxLen;omega) (by omega) w (SeqGives.bounded hseq));go_enter Tryz.func149,Tryz.ntmps149;go_wp2_with fail;refine o.mono ?_;rintro e w1 ⟨v,b,rfl,⟨h,C⟩,q,I,t⟩;rcases q.2 with ⟨rfl,K⟩|⟨G,Z,X,rfl,H,B,r1,r2,D,F⟩
 ·have J:b=[]:=List.eq_nil_of_length_eq_zero K;subst J;have r:=hid t;have u:=hid h;have U:=hid q;have i:=AnyF.slices_SortFunc_none Tryz.sortD none 0 (.func (.func 151) #[] #[]) w1;change Cl 171 _ _ _ at i;have m:=hid i;clear t h q o i;go_wp2_with fail;refine m.mono ?_;rintro e L ⟨rfl,rfl⟩;clear m;go_wp2_with fail;go_ret;exact⟨_,[],rfl,List.Pairwise.nil,fun x=>u.2 x,by simp,U,r⟩
 ·have m:=hid (sortFuncK w.heap.size G Z b w1 q (by omega));have r:=hid t;have u:=hid h;have O:Hid (b.length<=1048576):=hid (by omega);have Y:=hid H;clear t h q o I;go_wp2_with fail;refine m.mono ?_;rintro e L ⟨rfl,j,A,E,s,p⟩;have Q:=hid s;have M:=hid (r.grown p r.size (fun k e=>by injection e with e;have:=Y.out;omega));have z:=hid A;have V:=hid E;clear s p A E m;go_wp2_with fail;go_ret;refine⟨_,j,rfl,QcU (z.nodup_iff.2 u.1) V,fun x=>by rw [z.mem_iff];exact u.2 x,by rw [z.length_eq];exact O,?_,M⟩;rw [z.length_eq];exact Q
theorem keysNilK (n l Bm:Nat)(J:List Dt ->World ->Prop)(W:World)(hJ:AbidesFrom W.heap.size J)(hm:W.cell? ⟨Bm,0,none⟩=some (.map none))(h0:J [] W):
  CallsIn Fence.wide n Tryz.prog 187 #[.func (.yield l) #[] #[],.pointer (some ⟨Bm,0,none⟩)] W fun e W'=>(∃v,e=.returned v)/\∃ss:List Dt,QbF (fun _=>(none:Option ByteArray)) ss/\ J ss W':=by
 have k:=run_range_nilMap (P:=Tryz.prog) W 154 104 165 Tryz.underlying154;have j:∀ty,(Instr.next (.pointer (some ⟨W.heap.size,0,none⟩)) false ty).run Tryz.prog (W.alloc (.mapIter none 0 #[] 0))=_:=fun ty=>run_next_nilMap _ ty 0 0 #[];refine callsIn_of_wp Tryz.func187 rfl trivial ?_ rfl;simp only [Tryz.ntmps187,List.size_toArray,List.length_cons,List.length_nil,Nat.reduceAdd,Nat.reduceSub,Array.replicate_succ,Array.replicate_zero,List.push_toArray,List.append_toArray,List.nil_append,List.cons_append];gi_wp2
 refine wpIn_loop_rounds 1 ?_;rw [roundsIn_succ];gi_wp2
 go_end0;exact⟨⟨_,rfl⟩,[],⟨List.nodup_nil,fun x=>by simp⟩,hJ [] W _ none h0 (World.grownBy_alloc W _ none) (fun r e=>by cases e)⟩
theorem keysFnK (mb:Option Nat)(w:World):Cl 170 #[.map mb] w fun e w'=>e=.returned (.func (.func 187) #[] #[.pointer (some ⟨w.heap.size,0,none⟩)])/\ w'=w.alloc (.cells #[.map mb] 154):=by
 go_enter Tryz.func170,Tryz.ntmps170;go_wp2_with fail;go_ret;exact⟨rfl,rfl⟩
theorem sortedDotsC (B c:Nat)(N:List Ky ->Option (Nat×Nat))(M:List Ky ->Dt ->Option ByteArray)(p:List Ky)(w:World)(hT:Tre w B N M c)(hc:c<=1048576):
  Cl 159 #[.agg #[.map (mF (N p)),.map (mS (N p))]] w fun e w'=>∃(v:Value) (j:List Dt),e=.returned v/\ j.Pairwise (fun x y=>Qb6 x y<0)/\ (∀x,x∈j↔M p x≠none)/\ j.length<=1048576/\ w'.ownsRow w.heap.size 104 2 v j.length (kRow j)/\ Bl w w':=by
 obtain⟨K,I⟩:=zE (mF (N p));obtain⟨m,h⟩:=zE (mS (N p));rw [I,h];have A:Hid (∀w1,Bl w w1 ->∀Bm,Bm<w1.heap.size ->w1.cell? ⟨Bm,0,none⟩=some (.map m) ->∃n,n<=1048576/\ SeqGives Fence.wide 4 Tryz.prog 187 #[.pointer (some ⟨Bm,0,none⟩)] dtV (QbF (M p)) n w1):=hid (fun w1 z Bm hBm k=>by
  cases e:N p with
  | some x=>
   obtain⟨D,U⟩:=(hT.bw z).marks p x e;have:m=some x.2:=by rw [<- h,e];rfl
   rw [this] at k;exact⟨Maps.size D,Nat.le_trans U.own.size_le hc,keysGivesK Bm x.2 c _ D w1 hBm k U⟩
  | none=>
   have:m=none:=by rw [<- h,e];rfl
   rw [this] at k;refine⟨0,by omega,fun l J W q hJ hY h0=> ?_⟩;have R:M p=fun _=>none:=funext fun y=>by rw [hT.none' _ e]
   rw [R];exact keysNilK 4 l Bm J W hJ ((q.cell (p:=⟨Bm,0,none⟩) hBm).trans k) h0)
 obtain⟨W,q⟩:=zE (w.alloc (.cells #[.map K,.map m] 156));have Q:Bl w W:=by rw [<- q];exact zO _ _
 have O:Bx2 W w.heap.size (.map K) (.map m):=by rw [<- q];exact Bx2.made _ _ _ _
 have k0:=O.c1;have s:=hid Q;clear hT Q O I h;go_enter Tryz.func159,Tryz.ntmps159;go_wp2_with fail;try rw [q]
 clear q;refine(keysFnK m W).mono ?_;rintro e w1 ⟨rfl,t⟩;have z:Bl W w1:=by rw [t];exact zO _ _
 have i:w1.cell? ⟨W.heap.size,0,none⟩=some (.map m):=by rw [t];simp
 have L:W.heap.size<w1.heap.size:=by rw [t];simp
 have u:=hid (s.trans (z.mono s.size));obtain⟨n,T,H⟩:=A w1 u W.heap.size L i;have E:=hid (Qcv _ _ (enters_of Tryz.func187 (by kernel_rfl) rfl) n (M p) w1 T H);clear H t z i L k0 A;go_wp2_with fail;refine E.mono ?_;rintro e w2 ⟨v,j,rfl,G,k,Y,Z,V⟩;have o:=hid (And.intro G (And.intro k Y));have X:=hid (u.trans (V.mono u.size));have C:Hid (w2.ownsRow w.heap.size 104 2 v j.length (kRow j)):=hid (by
  obtain⟨q1,b⟩:=Z;refine⟨q1,?_⟩;rcases b with b|⟨g,F,P,e,S,r⟩
  ·exact .inl b
  ·exact .inr ⟨g,F,P,e,Nat.le_trans u.size S,r⟩)
 clear G k Y Z V E;go_wp2_with fail;go_ret;exact⟨v,j,rfl,o.1,o.2.1,o.2.2,C,X⟩
end Go.Proofs.YtgmjgboibfdaeaaGreatDoor.Ds
namespace Go.Proofs.YtgmjgboibfdaeaaGreatDoor
open Go.ChangeShapes Go.WideShapes Go.ChangeAt Go.RowKit
variable {B cap g m n:Nat}{cur:Array Value}{e:TypeId}{fr:Nat×Nat}{ts:List Ky}{v:Value}{w:World}
theorem Qdq (B:Nat)(bv:Value)(zs0:List Int)(s:ByteArray)(w:World)(hs:s.size<=1048576)(hB:B<=w.heap.size)(hl:zs0.length<=1000000000)(ho:Own w B bv zs0):
  Cl 134 #[bv,.string s] w fun e w'=>∃v,e=.returned v/\ Own w' B v (zs0++Qaj s)/\ Gr w w' bv v/\ w.heap.size<w'.heap.size:=by
 have i:=Qag 9 s.size;go_enter Tryz.func134,Tryz.ntmps134;go_wp2_with fail;refine(QaN B s.size bv zs0 w (by omega) hB (by omega) ho).mono ?_;rintro e w1 ⟨v1,rfl,q,k,t⟩;obtain⟨v2,u,m,r,j⟩:=Qnp B v1 _ s w1 q (by omega) (by rw [List.length_append];omega) hs;have R:Own u B v2 (zs0++Qaj s):=by unfold Qaj;rw [<- List.append_assoc];exact r
 have z:=hid R;have y:=hid (k.trans j);have o:=j.g.size;have h:Hid (w.heap.size<u.heap.size):=hid (by omega);clear q r k j R t o ho;go_wp2_with (at_builtin;refine Qab rfl _ _ _ _ rfl m (by rfl) (by rfl) rfl ?_;clear m);go_ret;exact⟨v2,rfl,z,y,h⟩
theorem Qm0{ts:List Dt}(h:w.ownsRow B 104 2 (.slice (some ⟨g,0,none⟩) m cap) m (Ds.kRow ts))(hl:ts.length=m):∀i,i<m ->∃d,ts[i]? =some d/\ w.cell? ⟨g,i*2,none⟩=some (.int .i64 d.1)/\ w.cell? ⟨g,i*2+1,none⟩=some (.int .i64 d.2):=by
 rcases h.2 with ⟨v,_⟩|⟨t,z,k,y,s,u,o,b,p,r⟩
 ·cases v
 ·cases y;intro i hi;have hi':i<ts.length:=by omega
  have q:ts.toArray[i]! =ts[i]:=by rw [getElem!_pos _ _ (by simpa using hi')];simp
  refine⟨ts[i],by simp [hi'],?_,?_⟩
  ·have j:(k.toList.take (m*2))[i*2]? =(Ds.kRow ts)[i*2]? :=by rw [r]
   rw [List.getElem?_take_of_lt (by omega),Ds.kRow_get ts (i*2) (by omega)] at j;rw [show i*2/2=i by omega,show i*2%2=0 by omega,q] at j;simp [World.cell?,u,<- Array.getElem?_toList,j,Ds.kCells]
  ·have j:(k.toList.take (m*2))[i*2+1]? =(Ds.kRow ts)[i*2+1]? :=by rw [r]
   rw [List.getElem?_take_of_lt (by omega),Ds.kRow_get ts (i*2+1) (by omega)] at j;rw [show (i*2+1)/2=i by omega,show (i*2+1)%2=1 by omega,q] at j;simp [World.cell?,u,<- Array.getElem?_toList,j,Ds.kCells]
theorem Qol{ts:List Dt}(h:w.ownsRow B 104 2 v ts.length (Ds.kRow ts)):∃a j,v=.slice a ts.length j/\ ts.length<=j/\ j<=9223372036854775807/\ (0<ts.length ->∃g,a=some ⟨g,0,none⟩/\ B<=g/\ g<w.heap.size/\∀i,i<ts.length ->∃d,ts[i]? =some d/\ w.cell? ⟨g,i*2,none⟩=some (.int .i64 d.1)/\ w.cell? ⟨g,i*2+1,none⟩=some (.int .i64 d.2)):=by
 rcases h.2 with ⟨rfl,k⟩|⟨g,j,y,rfl,u,r,m,q,z,t⟩
 ·exact⟨none,0,by rw [k],by omega,by omega,fun hh=>by omega⟩
 ·exact⟨_,j,rfl,m,by unfold maxLen at q;omega,fun _=>⟨g,rfl,u,(Array.getElem?_eq_some_iff.1 r).1,Qm0 h rfl⟩⟩
theorem Qfc {R F T:Nat ->Int}(l:List Lf)(p:List ByteArray)(y:Ky)(w0:World)(Bt c:Nat)(N:List Ky ->Option (Nat×Nat))(hT:Tre w0 Bt N (Mk l l.length) c)(hc:c<=1048576)(hlv:QbT R F T n l l.length)(hbd:LvB l)(hy:y.2=1 \/y.2=2)(bv:Value)(zs0:List Int)(w:World)(hb:Bl w0 w)(ho:Own w w0.heap.size bv zs0)(hl:zs0.length<=100000000):
  Cl 135 #[.agg #[.map (mF (N (Qac p 3++[y]))),.map (mS (N (Qac p 3++[y])))],bv,.int .i64 y.2] w fun e w'=>∃v,e=.returned v/\ Own w' w0.heap.size v (zs0++mB (dsK l p y l.length) y.2)/\ Gr w w' bv v:=by
 have Hq:y.2≠3:=by omega
 obtain⟨ls,O⟩:=zE (dsK l p y l.length);obtain⟨Y,hY⟩:=zE y.2;rw [O,hY];rw [hY] at hy;clear hY;obtain⟨W,A⟩:=zE (w.alloc (.cells #[.map (mF (N (Qac p 3++[y]))),.map (mS (N (Qac p 3++[y])))] 156));have I:Bl w W:=by rw [<- A];exact zO _ _
 have H:Bx2 W w.heap.size (.map (mF (N (Qac p 3++[y])))) (.map (mS (N (Qac p 3++[y])))):=by rw [<- A];exact Bx2.made _ _ _ _
 have zW:W.heap.size=w.heap.size+1:=by rw [<- A];simp
 have Hl:Bl w0 W:=hb.trans (I.mono hb.size);have Hg:=hid (Ds.sortedDotsC Bt c N (Mk l l.length) (Qac p 3++[y]) W (hT.bw Hl) hc);obtain⟨m0,Ho⟩:=zE (mF (N (Qac p 3++[y])));obtain⟨m1,X⟩:=zE (mS (N (Qac p 3++[y])));rw [Ho,X] at H Hg A;rw [Ho,X];obtain⟨k0,k1⟩:=H.q2;have HX:=hid H;have Gh:=hid I;have C:=hid Hl;have HO:=hid (Own.kept ho I (fun k M=>(World.ownsRow.lt ho k M).2));have HT:=hid hT;have Go:=hid X;have G:Hid (∀g,bv.ownBlock=some g ->w0.heap.size<=g/\ g<w.heap.size):=hid (fun g hg=>World.ownsRow.lt ho g hg);clear H I Hl ho hT Ho X;go_enter Tryz.func135,Tryz.ntmps135;go_wp2_with fail;try rw [A]
 clear A;refine Hg.mono ?_;rintro e w1 ⟨vd,ts,rfl,Hd,He,Gu,Gb,o⟩;have L:=Qfi hlv Hq Hd He;have P:Hid (∀x∈ls,(0<=x.r/\ x.r<8)/\ (0<=x.q/\ x.q<=1000000000)/\ x.v.size<=200):=hid (fun x hx=>by
  rw [<- O] at hx;obtain⟨j,hj,_,rfl⟩:=Qbs.1 hx;exact⟨hbd.rep j hj,hbd.seq j hj,hbd.val j hj⟩)
 have Gl:Hid (∀x∈ls,∀w',Bl w0 w' ->(Instr.lookup 154 (.map m1) (.agg #[.int .i64 x.r,.int .i64 x.q]) false).run Tryz.prog w'=.ok (.agg #[.string x.v]) w'):=hid (fun x hx w' hb'=>by
  have hv:=Qfy Hq hbd.dis (by rw [O];exact hx);have T':=HT.bw hb';have hl:=P x hx;cases e:N (Qac p 3++[y]) with
  | none=>rw [T'.none' _ e] at hv;cases hv
  | some x1=>
   have hu:m1=some x1.2:=by rw [<- Go.out,e];rfl
   obtain⟨kl,Gs⟩:=Qfh (r:=x.r) (q:=x.q) (wfI (by omega) (by omega)) (wfI (by omega) (by omega));have:=(T'.marks _ x1 e).look Qa1 Tryz.underlying154 (QeU w') (x:=(x.r,x.q)) Gs;rw [hv] at this;rw [hu];exact this)
 have Gt:ls.length<=1000:=by rw [<- O];have:=Qid l p y l.length;have:=hbd.len;omega
 rw [O] at L;have Gc:ts.length=ls.length:=by rw [L];simp
 obtain⟨da,dc,rfl,Hm,Gq,H7⟩:=Qol Gb;have HD:Hid (0<ls.length ->∃g,da=some ⟨g,0,none⟩/\ W.heap.size<=g/\ g<w1.heap.size/\∀i,i<ls.length ->∃x∈ls,ls[i]? =some x/\ w1.cell? ⟨g,i*2,none⟩=some (.int .i64 x.r)/\ w1.cell? ⟨g,i*2+1,none⟩=some (.int .i64 x.q)):=hid (fun h0=>by
  obtain⟨g,e1,e2,e3,e4⟩:=H7 (by omega);refine⟨g,e1,e2,e3,fun i hi=> ?_⟩;obtain⟨d,f1,f2,f3⟩:=e4 i (by omega);rw [L] at f1;simp only [List.getElem?_map,Option.map_eq_some_iff] at f1;obtain⟨x,f4,f5⟩:=f1;subst f5;exact⟨x,List.mem_of_getElem? f4,f4,f2,f3⟩)
 rw [Gc] at Hm ⊢;have X1:=HX.bw o HX.lt;have Hz:=hid X1;have Gm:=hid (Own.kept HO o (fun k M=>by have:=(G k M).2;omega));have Hr:=hid (C.trans (o.mono C.size));have Hf:=hid (Qaa Gh o);have x0:IntKind.u64.wrap ((ls.length:Nat):Int)=(ls.length:Int):=QeT _ (by omega) (by omega);have Gx:=o.size;have Q:Hid (w0.heap.size<=w1.heap.size/\ w.heap.size<w1.heap.size/\ w0.heap.size<=w.heap.size):=hid ⟨Hr.size,by omega,hb.size⟩;clear k0 k1 Gb Hd He Gu H7 L Gc o Hg X1 HX HO C Gx O Hq;go_wp2_with fail;refine(QaN w0.heap.size ls.length bv zs0 w1 (by omega) Q.1 (by omega) Gm).mono ?_;rintro e w2 ⟨v2,rfl,o2,g2,z2⟩;have Hv:=hid o2;have Hs:=hid g2;have H0:=hid z2;clear o2 g2 z2 x0;go_wp2_with fail;go_loopw [1,19] (fun b' i wr=>∃(k:Nat),k<=ls.length/\ i=.int .i64 k/\ Hid (Own wr w0.heap.size b' (zs0++(uvF 9 ls.length++(ls.take k).flatMap (lfB Y))))/\ Hid (Gr w1 wr bv b')/\ Hid (w1.heap.size<=wr.heap.size)) (fun _ i _=>ls.length - (intOf i).toNat);case atStart=>exact⟨0,Nat.zero_le _,rfl,hid (by simpa using Hv.out),Hs,hid (Nat.le_of_lt H0)⟩
 case round=>
  clear Hv Hs H0;obtain⟨k,M,rfl,Z,u,H2⟩:=hrel;by_cases Hn:k<ls.length
  ·obtain⟨g,rfl,Gy,Gz,H9⟩:=HD (by omega);obtain⟨x,Hp,Gd,H5,H6⟩:=H9 k Hn;have Hc:some g≠bv.ownBlock:=fun e=>by have:=(G g e.symm).2;omega
   have Ha:some w.heap.size≠bv.ownBlock:=fun e=>by have:=(G _ e.symm).2;omega
   have s:=u.g.cell H5 Hc;have c2:=u.g.cell H6 Hc;have n1:=u.g.cell Hz.c1 Ha;have Gv:=P x Hp;have Hh:Hid ((ls.take (k+1)).flatMap (lfB Y)=(ls.take k).flatMap (lfB Y)++lfB Y x):=hid (by rw [List.take_add_one,Gd];simp);have Hj:Hid ((zs0++(uvF 9 ls.length++(ls.take k).flatMap (lfB Y))).length<=100000000+10+230000):=hid (by
    have h1:=(Qag 9 ls.length).1;have h2:=QbX (lfB Y) (fun _=>1) 230 (ls.take k) (fun z hz=>by
     have a1:=(Qag 9 z.r.toNat).1;have a2:=(Qag 9 z.q.toNat).1;have a3:=QaF z.v;have a4:=(P z (List.mem_of_mem_take hz)).2.2;unfold lfB;simp only [List.length_append];split
     ·omega
     ·simp;omega)
    have h3:∀ls:List Lf,(ls.map fun _=>1).sum=ls.length:=fun ls=>by
     induction ls with
     | nil=>rfl
     | cons a r ih=>simp only [List.map_cons,List.sum_cons,ih,List.length_cons];omega
    rw [h3,List.length_take] at h2;simp only [List.length_append];omega)
   have D:Hid (∀w',Bl w0 w' ->(Instr.lookup 154 (.map m1) (.agg #[.int .i64 x.r,.int .i64 x.q]) false).run Tryz.prog w'=.ok (.agg #[.string x.v]) w'):=hid (fun w' h=>Gl.out x Hp w' h);obtain⟨xp,xf,xr,xq,U⟩:=x;dsimp only at s c2 Gv D Hh;obtain⟨r,rfl⟩:∃r:Nat,xr=(r:Int):=⟨xr.toNat,by omega⟩;obtain⟨q,rfl⟩:∃q:Nat,xq=(q:Int):=⟨xq.toNat,by omega⟩;have Hy:Hid (lfB Y ⟨xp,xf,(r:Int),(q:Int),U⟩=uvF 9 r++(uvF 9 q++if Y=1 then Qaj U else [])):=hid (by simp [lfB]);have x3:IntKind.u64.wrap (r:Int)=(r:Int):=QeT _ (by omega) (by omega);have x4:IntKind.u64.wrap (q:Int)=(q:Int):=QeT _ (by omega) (by omega);obtain⟨t,E⟩:=zE (wr.alloc (.cells #[.int .i64 (r:Int),.int .i64 (q:Int)] 104));have B:Bx2 t wr.heap.size (.int .i64 (r:Int)) (.int .i64 (q:Int)):=by rw [<- E];exact Bx2.made _ _ _ _
   have H3:Bl wr t:=by rw [<- E];exact zO _ _
   have Gk:Hid (Gr w1 t bv u1):=by rw [<- E];exact hid (u.alloc _)
   have Gn:Hid (Own t w0.heap.size u1 (zs0++(uvF 9 ls.length++(ls.take k).flatMap (lfB Y)))):=by rw [<- E];exact hid (World.ownsRow.alloc Z _)
   have Hb:Hid (some wr.heap.size≠u1.ownBlock):=hid (fun e=>by have:=(World.ownsRow.lt Z _ e.symm).2;omega);obtain⟨q0,q1⟩:=B.q2;have V:=hid B;have Gi:=hid Ha;have Hk:Hid (w1.heap.size<=t.heap.size):=hid (by have:=H3.size;have:=H2.out;omega);clear B H3 H5 H6 H9 Hp Gd Ha Hc Z u H2;go_wp2_with fail;try rw [E]
   clear E;refine(QaN w0.heap.size r u1 _ t (by omega) (by have:=Q.1;have:=Hk.out;omega) (by have:=Hj.out;omega) Gn).mono ?_;rintro e w3 ⟨v3,rfl,o3,g3,z3⟩;have Gw:=g3.g.cell V.c1 Hb;have Hw:=hid o3;have Ht:=hid g3;have H1:=hid z3;have l3:=(Qag 9 r).1;clear o3 g3 z3 q0 q1 s c2 n1 x3;go_wp2_with fail;refine(QaN w0.heap.size q v3 _ w3 (by omega) (by have:=Q.1;have:=Hk.out;have:=H1.out;omega) (by have:=Hj.out;rw [List.length_append];omega) Hw).mono ?_;rintro e m ⟨v5,rfl,o5,g5,z5⟩;have K:=Ht.trans g5;have Gf:=K.g.cell V.c0 Hb;have Gg:=K.g.cell V.c1 Hb;have J:=Gk.trans K;have Ge:=J.g.cell Hz.c1 Gi;have H4:Bl w0 m:=Hr.trans (J.bw Q.1 (fun k M=>(G k M).1));have Ga:=D m H4;have H8:(Instr.field 165 (.agg #[.string U]) 0).run Tryz.prog m=.ok (.string U) m:=by kernel_rfl
   have Hx:=hid o5;have Hu:=hid J;have Hi:Hid (w1.heap.size<=m.heap.size):=hid (by have:=Hk.out;have:=H1.out;omega);have l5:=(Qag 9 q).1;clear o5 g5 z5 Gw K J x4 H4 D Ht Hw V;rcases hy with rfl|rfl
   ·go_wp2_with fail;refine(Qdq w0.heap.size v5 _ U m (by omega) (by have:=Q.1;have:=Hi.out;omega) (by have:=Hj.out;simp only [List.length_append] at*;omega) Hx).mono ?_;rintro e w6 ⟨v6,rfl,o6,g6,z6⟩;have S:Hid (Own w6 w0.heap.size v6 (zs0++(uvF 9 ls.length++(ls.take (k+1)).flatMap (lfB 1)))):=hid (by rw [Hh.out,Hy.out];simpa using o6);have Gj:=hid (Hu.trans g6);have Gp:Hid (w1.heap.size<=w6.heap.size):=hid (by have:=Hi.out;omega);clear o6 g6 z6 Ga H8 Gf Gg Ge;go_wp2_with fail;go_roundw;case rel=>exact⟨k+1,Hn,by go_num,S,Gj,Gp⟩
    case measure=>simp [intOf];omega
   ·have S:Hid (Own m w0.heap.size v5 (zs0++(uvF 9 ls.length++(ls.take (k+1)).flatMap (lfB 2)))):=hid (by rw [Hh.out,Hy.out];simpa using Hx.out);clear Ga H8 Gf Gg Ge;go_wp2_with fail;go_roundw;case rel=>exact⟨k+1,Hn,by go_num,S,Hu,Hi⟩
    case measure=>simp [intOf];omega
  ·obtain rfl:k=ls.length:=by omega
   have HF:Hid (zs0++(uvF 9 ls.length++(ls.take ls.length).flatMap (lfB Y))=zs0++mB ls Y):=hid (by rw [List.take_length];rfl);go_wp2_with fail;go_ret;refine⟨_,rfl,by rw [<- HF.out];exact Z,?_⟩;exact(Gr.of_below (b:=bv) Hf).trans u
theorem QmJ(h:w.ownsRow B 208 2 (.slice (some ⟨g,0,none⟩) m cap) m (kRow ts))(hl:ts.length=m):∀i,i<m ->∃d,ts[i]? =some d/\ w.cell? ⟨g,i*2,none⟩=some (.string d.1)/\ w.cell? ⟨g,i*2+1,none⟩=some (.int .i64 d.2):=by
 rcases h.2 with ⟨v,_⟩|⟨t,z,k,y,s,u,o,b,p,r⟩
 ·cases v
 ·cases y;intro i hi;have hi':i<ts.length:=by omega
  have q:ts.toArray[i]! =ts[i]:=by rw [getElem!_pos _ _ (by simpa using hi')];simp
  refine⟨ts[i],by simp [hi'],?_,?_⟩
  ·have j:(k.toList.take (m*2))[i*2]? =(kRow ts)[i*2]? :=by rw [r]
   rw [List.getElem?_take_of_lt (by omega),kRow_get ts (i*2) (by omega)] at j;rw [show i*2/2=i by omega,show i*2%2=0 by omega,q] at j;simp [World.cell?,u,<- Array.getElem?_toList,j,kCells]
  ·have j:(k.toList.take (m*2))[i*2+1]? =(kRow ts)[i*2+1]? :=by rw [r]
   rw [List.getElem?_take_of_lt (by omega),kRow_get ts (i*2+1) (by omega)] at j;rw [show (i*2+1)/2=i by omega,show (i*2+1)%2=1 by omega,q] at j;simp [World.cell?,u,<- Array.getElem?_toList,j,kCells]
theorem Qon(h:w.ownsRow B 208 2 v ts.length (kRow ts)):∃a j,v=.slice a ts.length j/\ ts.length<=j/\ j<=9223372036854775807/\ (0<ts.length ->∃g,a=some ⟨g,0,none⟩/\ B<=g/\ g<w.heap.size/\∀i,i<ts.length ->∃d,ts[i]? =some d/\ w.cell? ⟨g,i*2,none⟩=some (.string d.1)/\ w.cell? ⟨g,i*2+1,none⟩=some (.int .i64 d.2)):=by
 rcases h.2 with ⟨rfl,k⟩|⟨g,j,y,rfl,u,r,m,q,z,t⟩
 ·exact⟨none,0,by rw [k],by omega,by omega,fun hh=>by omega⟩
 ·exact⟨_,j,rfl,m,by unfold maxLen at q;omega,fun _=>⟨g,rfl,u,(Array.getElem?_eq_some_iff.1 r).1,QmJ h rfl⟩⟩
theorem QlE {p:List ByteArray}{x:Lf}{y:Ky}(hx:Qc1 x)(h:nx p x=some y):(y.2=1 \/y.2=2) \/(y.2=3/\ p.length+2<=8):=by
 rw [Qb8] at h;obtain⟨⟨_,q⟩,e⟩:=h;have j:=congrArg Prod.snd e;unfold Qar at j;dsimp only at j;by_cases m:p.length+1<x.p.length
 ·rw [if_pos m] at j;have:=hx.1.2.1;exact .inr ⟨j.symm,by omega⟩
 ·rw [if_neg m] at j;rcases QdQ x.fl with k|k<;>rw [k] at j
  ·exact .inl (.inl j.symm)
  ·exact .inl (.inr j.symm)
theorem Qe0 {α:Type}(f:α ->List Int)(ts:List α)(k:Nat):((ts.take k).flatMap f).length<=(ts.flatMap f).length:=by
 conv=>rhs;rw [<- List.take_append_drop k ts,List.flatMap_append,List.length_append]
 omega
theorem Qfd {R F T:Nat ->Int}{n:Nat}(l:List Lf)(w0:World)(Bt c:Nat)(N:List Ky ->Option (Nat×Nat))(hT:Tre w0 Bt N (Mk l l.length) c)(hN:NkI l l.length N)(hc:c<=1048576)(hlv:QbT R F T n l l.length)(hbd:LvB l):∀(f:Nat) (p:List ByteArray),p.length+f=8 ->1<=f ->∀(bv:Value) (zs0:List Int) (w:World),Bl w0 w ->Own w w0.heap.size bv zs0 ->zs0.length+(tB l f p).length<=90000000 ->
  Cl 107 #[.agg #[.map (mF (N (Qac p 3))),.map (mS (N (Qac p 3)))],bv] w fun e w'=>∃v,e=.returned v/\ Own w' w0.heap.size v (zs0++tB l f p)/\ Gr w w' bv v
 | 0,_,_,q,_,_,_,_,_,_=>by omega
 | f+1,p,hpf,_,bv,zs0,w,hb,ho,hl=>by
  obtain⟨k1,k2⟩:=Qfs p hlv l.length zL;obtain⟨TB,Gf⟩:=zE (tB l (f+1) p);rw [Gf] at hl ⊢;have G7:Hid (∀s,p.length+2<=8 ->∀(bv:Value) (zs0:List Int) (w:World),Bl w0 w ->Own w w0.heap.size bv zs0 ->zs0.length+(tB l f (p++[s])).length<=90000000 ->Cl 107 #[.agg #[.map (mF (N (Qac p 3++[(s,3)]))),.map (mS (N (Qac p 3++[(s,3)])))],bv] w fun e w'=>∃v,e=.returned v/\ Own w' w0.heap.size v (zs0++tB l f (p++[s]))/\ Gr w w' bv v):=hid (fun s G3 bv zs0 w q A h3=>by
   rw [<- QeR];exact Qfd l w0 Bt c N hT hN hc hlv hbd f (p++[s]) (by simp;omega) (by omega) bv zs0 w q A h3)
  obtain⟨W,hW⟩:=zE (w.alloc (.cells #[.map (mF (N (Qac p 3))),.map (mS (N (Qac p 3)))] 156));have b0:Bl w W:=by rw [<- hW];exact zO _ _
  have X0:Bx2 W w.heap.size (.map (mF (N (Qac p 3)))) (.map (mS (N (Qac p 3)))):=by rw [<- hW];exact Bx2.made _ _ _ _
  have zW:W.heap.size=w.heap.size+1:=by rw [<- hW];simp
  have Gg:Bl w0 W:=hb.trans (b0.mono hb.size);have Ge:=hid (Qcw Bt c N (Mk l l.length) (Qac p 3) W (hT.bw Gg) hc);obtain⟨m0,H9⟩:=zE (mF (N (Qac p 3)));obtain⟨m1,Gh⟩:=zE (mS (N (Qac p 3)));rw [H9,Gh] at X0 Ge hW;rw [H9,Gh];obtain⟨q0,q1⟩:=X0.q2;have HX:=hid X0;have G6:=hid b0;have Gb:=hid Gg;have HO:=hid (Own.kept ho b0 (fun k E=>(World.ownsRow.lt ho k E).2));have HT:=hid hT;have G9:=hid H9;have Hb:Hid (∀g,bv.ownBlock=some g ->w0.heap.size<=g/\ g<w.heap.size):=hid (fun g hg=>World.ownsRow.lt ho g hg);have Gq:=hid Gf;have Gm:=hid k2;clear X0 b0 Gg ho H9 Gh Gf k1 k2;go_enter Tryz.func107,Tryz.ntmps107;go_wp2_with fail;try rw [hW]
  clear hW;refine Ge.mono ?_;rintro e w1 ⟨vd,m,rfl,Hz,H0,Kf,G2,b1⟩;have H7:=Qiv (p:=p) hlv hN Hz H0;obtain⟨da,dc,rfl,Kb,Kc,Gz⟩:=Qon G2;have Ke:m.length<=1000:=by rw [H7];have:=Qfr l p l.length;have:=hbd.len;omega
  have HD:Hid (0<m.length ->∃g,da=some ⟨g,0,none⟩/\ W.heap.size<=g/\ g<w1.heap.size/\∀i,i<m.length ->∃y∈m,m[i]? =some y/\ w1.cell? ⟨g,i*2,none⟩=some (.string y.1)/\ w1.cell? ⟨g,i*2+1,none⟩=some (.int .i64 y.2)):=hid (fun h0=>by
   obtain⟨g,e1,M,e3,e4⟩:=Gz h0;refine⟨g,e1,M,e3,fun i hi=> ?_⟩;obtain⟨d,f1,f2,f3⟩:=e4 i hi;exact⟨d,List.mem_of_getElem? f1,f1,f2,f3⟩)
  have Gs:Hid (TB=uvF 9 m.length++m.flatMap (kB l f p)):=hid (by rw [<- Gq.out,QjZ,<- H7]);have Gn:Hid (∀y∈m,y.1.size<=40/\ ((y.2=1 \/y.2=2) \/(y.2=3/\ p.length+2<=8))):=hid (fun y hy=>by
   rw [H7] at hy;obtain⟨j,hj,e⟩:=(Gm y).1 hy;exact⟨Qgm (hlv j hj).1 e,QlE (hlv j hj).1 e⟩)
  have G8:Hid (∀y∈m,∀w',Bl w0 w' ->(Instr.lookup 153 (.map m0) (.agg #[.string y.1,.int .i64 y.2]) false).run Tryz.prog w'=.ok (.agg #[.map (mF (N (Qac p 3++[y]))),.map (mS (N (Qac p 3++[y])))]) w'):=hid (fun y hy w' hb'=>by
   have hl:=Gn y hy;obtain⟨kl,Kd⟩:=QgN (s:=y.1) (k:=y.2) (by unfold maxLen;omega) (wfI (by omega) (by omega));have:=(HT.bw hb').look (Qac p 3) y Kd;rw [G9.out] at this;exact this)
  have X1:=HX.bw b1 HX.lt;have H6:=hid X1;have Ka:=hid (Own.kept HO b1 (fun k E=>by have:=(Hb k E).2;omega));have H2:=hid (Gb.trans (b1.mono Gb.size));have Ga:=hid (Qaa G6 b1);have x0:IntKind.u64.wrap ((m.length:Nat):Int)=(m.length:Int):=QeT _ (by omega) (by omega);have Kg:=b1.size;have H:Hid (w0.heap.size<=w1.heap.size/\ w.heap.size<w1.heap.size/\ w0.heap.size<=w.heap.size):=hid ⟨H2.size,by omega,hb.size⟩;clear q0 q1 G2 Hz H0 Kf Gz H7 b1 Ge X1 HX HO Gb Kg Gm Gq;go_wp2_with fail;refine(QaN w0.heap.size m.length bv zs0 w1 (by omega) H.1 (by omega) Ka).mono ?_;rintro e w2 ⟨v2,rfl,o2,g2,z2⟩;have Go:=hid o2;have Gl:=hid g2;have Gt:=hid z2;clear o2 g2 z2 x0;go_wp2_with fail;go_loopw [1,17] (fun b' i wr=>∃(k:Nat),k<=m.length/\ i=.int .i64 k/\ Hid (Own wr w0.heap.size b' (zs0++(uvF 9 m.length++(m.take k).flatMap (kB l f p))))/\ Hid (Gr w1 wr bv b')/\ Hid (w1.heap.size<=wr.heap.size)) (fun _ i _=>m.length - (intOf i).toNat);case atStart=>exact⟨0,Nat.zero_le _,rfl,hid (by simpa using Go.out),Gl,hid (Nat.le_of_lt Gt)⟩
  case round=>
   clear Go Gl Gt;obtain⟨k,E,rfl,H4,Hl,Gu⟩:=hrel;by_cases H8:k<m.length
   ·obtain⟨g,rfl,Kh,Ki,G0⟩:=HD (by omega);obtain⟨y,Gi,G5,Gx,Gy⟩:=G0 k H8;have Hi:some g≠bv.ownBlock:=fun e=>by have:=(Hb g e.symm).2;omega
    have Hh:some w.heap.size≠bv.ownBlock:=fun e=>by have:=(Hb _ e.symm).2;omega
    have c1:=Hl.g.cell Gx Hi;have c2:=Hl.g.cell Gy Hi;have n0:=Hl.g.cell H6.c0 Hh;have G4:=Gn y Gi;have H5:Hid ((m.take (k+1)).flatMap (kB l f p)=(m.take k).flatMap (kB l f p)++kB l f p y):=hid (by rw [List.take_add_one,G5];simp);have Q:Hid ((zs0++(uvF 9 m.length++(m.take k).flatMap (kB l f p))).length+(kB l f p y).length<=90000000):=hid (by
     have q:=Qe0 (kB l f p) m (k+1);rw [H5.out,List.length_append] at q;have A:=hl;rw [Gs.out] at A;simp only [List.length_append] at A ⊢;omega)
    have X:Hid (∀w',Bl w0 w' ->(Instr.lookup 153 (.map m0) (.agg #[.string y.1,.int .i64 y.2]) false).run Tryz.prog w'=.ok (.agg #[.map (mF (N (Qac p 3++[y]))),.map (mS (N (Qac p 3++[y])))]) w'):=hid (fun w' h=>G8.out y Gi w' h);have Hm:Hid ((y.2=1 \/y.2=2) ->∀(bv:Value) (zs0:List Int) (w:World),Bl w0 w ->Own w w0.heap.size bv zs0 ->zs0.length<=100000000 ->Cl 135 #[.agg #[.map (mF (N (Qac p 3++[y]))),.map (mS (N (Qac p 3++[y])))],bv,.int .i64 y.2] w fun e w'=>∃v,e=.returned v/\ Own w' w0.heap.size v (zs0++mB (dsK l p y l.length) y.2)/\ Gr w w' bv v):=hid (fun hy bv zs0 w q A h3=>Qfc l p y w0 Bt c N HT hc hlv hbd hy bv zs0 w q A h3);obtain⟨s,Y⟩:=y;dsimp only at c1 c2 G4 X H5 Hm Q;obtain⟨B,Hq⟩:=zE (wr.alloc (.cells #[.string s,.int .i64 Y] 208));have D1:Bx2 B wr.heap.size (.string s) (.int .i64 Y):=by rw [<- Hq];exact Bx2.made _ _ _ _
    have Gw:Bl wr B:=by rw [<- Hq];exact zO _ _
    have Gd:Hid (Gr w1 B bv u1):=by rw [<- Hq];exact hid (Hl.alloc _)
    have Gp:Hid (Own B w0.heap.size u1 (zs0++(uvF 9 m.length++(m.take k).flatMap (kB l f p)))):=by rw [<- Hq];exact hid (World.ownsRow.alloc H4 _)
    have C:Hid (some wr.heap.size≠u1.ownBlock):=hid (fun e=>by have:=(World.ownsRow.lt H4 _ e.symm).2;omega);obtain⟨q0,q1⟩:=D1.q2;have L:=hid D1;have Hr:=hid Hh;have Gv:Hid (w1.heap.size<=B.heap.size):=hid (by have:=Gw.size;have:=Gu.out;omega);obtain⟨zs,Gj⟩:=zE (zs0++(uvF 9 m.length++(m.take k).flatMap (kB l f p)));have Hf:Hid (zs0++(uvF 9 m.length++(m.take (k+1)).flatMap (kB l f p))=zs++kB l f p (s,Y)):=hid (by rw [H5.out,<- Gj];simp);rw [Gj] at Gp Q;clear D1 Gw Gx Gy G0 Gi G5 Hh Hi H4 Hl Gu Gj H5;go_wp2_with fail;try rw [Hq]
    clear Hq;refine(Qdq w0.heap.size u1 _ s B (by omega) (by have:=H.1;have:=Gv.out;omega) (by have:=Q.out;omega) Gp).mono ?_;rintro e J ⟨v3,rfl,o3,g3,z3⟩;have Hn:=hid o3;have Hk:=hid g3;have Hp:Hid (w1.heap.size<=J.heap.size):=hid (by have:=Gv.out;omega);have Gk:=g3.g.cell L.c1 C;clear o3 g3 z3 q0 q1 c1 c2 n0;rcases G4.2 with (rfl|rfl)|⟨rfl,G3⟩
    ·have V:Hid (kB l f p (s,1)=Qaj s++([1]++mB (dsK l p (s,1) l.length) 1)):=hid (by unfold kB;rw [if_neg (show¬(1:Int)=3 by decide)]);obtain⟨z,r,Ha,P,Z⟩:=Qc5 w0.heap.size v3 _ [1] ⟨J.heap.size,0,none⟩ 1 1 (J.alloc (.cells #[.int .u8 1] 5)) (World.ownsRow.alloc Hn _) rfl (fun i u hu=>cell_one_new _ _ _ i u hu) (by have:=H.1;have:=Hp.out;simp;omega) (by have q:=Q.out;rw [V.out] at q;simp only [List.length_append] at q ⊢;simp at q ⊢;omega);have o:Gr B r u1 z:=Hk.trans ((Gr.alloc (Gr.refl J v3) _).trans Z);have S:=o.g.cell L.c0 C;have Hc:=o.g.cell L.c1 C;have t:=Gd.trans o;have D:=t.g.cell H6.c0 Hr;have I:Bl w0 r:=H2.trans (t.bw H.1 (fun k E=>(Hb k E).1));have H1:w1.heap.size<=r.heap.size:=by have q:=Hp.out;have A:=Z.g.size;simp at A;omega
     have Ho:=hid P;have Hs:=hid t;have H3:=hid I;have Hu:Hid ((zs++Qaj s++[1]).length+(mB (dsK l p (s,1) l.length) 1).length<=90000000):=hid (by have q:=Q.out;rw [V.out] at q;simp only [List.length_append] at q ⊢;omega);obtain⟨a1,Hd⟩:=zE (mF (N (Qac p 3++[(s,1)])));obtain⟨a2,He⟩:=zE (mS (N (Qac p 3++[(s,1)])));have Hg:=hid (Hm (.inl rfl));rw [Hd,He] at X Hg;have Hj:Hid (some w.heap.size≠z.ownBlock/\ some wr.heap.size≠z.ownBlock):=hid ⟨by
      rcases t.l with e|⟨j,e,hj⟩
      ·rw [e];exact Hr
      ·rw [e];intro M;injection M with M;have:=H.2.1;omega,by
      rcases o.l with e|⟨j,e,hj⟩
      ·rw [e];exact C
      ·rw [e];intro M;injection M with M;have:=L.lt;omega⟩
     have Hw:Hid (∀w',Bl w0 w' ->w'.cell? ⟨w.heap.size,0,none⟩=some (.map m0) ->w'.cell? ⟨wr.heap.size,0,none⟩=some (.string s) ->w'.cell? ⟨wr.heap.size,1,none⟩=some (.int .i64 1) ->(Bl w0 w'/\ w'.cell? ⟨w.heap.size,0,none⟩=some (.map m0)/\ w'.cell? ⟨wr.heap.size,0,none⟩=some (.string s)/\ w'.cell? ⟨wr.heap.size,1,none⟩=some (.int .i64 1)/\ (Instr.lookup 153 (.map m0) (.agg #[.string s,.int .i64 1]) false).run Tryz.prog w'=.ok (.agg #[.map a1,.map a2]) w')):=hid (fun w' q A h3 h4=>⟨q,A,h3,h4,X w' q⟩);clear P Z o t I Hm X Hd He Q Hn Hk;go_wp2_with (at_builtin;refine Qab rfl _ _ _ _ rfl Ha (by rfl) (by rfl) rfl ?_;clear Ha);refine zG Hw H3.drew D S Hc (fun qh=> ?_);refine tZ 0 40 ?_;refine tZ 1 41 ?_;refine tZ 2 42 ?_;refine tZ 3 43 ?_;refine tZ 4 44 ?_;refine tZ 5 45 ?_;refine tZ 6 46 ?_;refine cZ 7 ?_;intro K hK;go_simp;refine(Hg z _ _ qh.1 (World.ownsRow.drew Ho) (by have:=Hu.out;omega)).mono ?_;rintro e U ⟨v6,rfl,o6,G⟩;have O:Gr r U z v6:=(show Gr r r.drew z z from⟨⟨rfl,rfl,rfl,Nat.le_refl _,fun _ _ _=>rfl⟩,.inl rfl⟩).trans G;have Hy:Bl w0 U:=qh.1.trans (G.bw qh.1.size (fun k E=>(World.ownsRow.lt Ho k E).1));refine hK.out _ _ (Hw _ Hy (O.g.cell D Hj.1) (O.g.cell S Hj.2) (O.g.cell Hc Hj.2)) (fun qh=> ?_);clear hK K;try simp only [zP]
     refine tZ 8 1 ?_;refine zD ?_;have Hv:Hid (Own U w0.heap.size v6 (zs0++(uvF 9 m.length++(m.take (k+1)).flatMap (kB l f p)))):=hid (by rw [Hf.out,V.out];simpa using o6);have Ht:=hid (Hs.trans O);have Hx:Hid (w1.heap.size<=U.heap.size):=hid (by have:=O.g.size;omega);clear o6 G O Hy qh S Hc D H1 Gk Hg;go_wp2_with fail;go_roundw;case rel=>exact⟨k+1,H8,by go_num,Hv,Ht,Hx⟩
     case measure=>simp [intOf];omega
    ·have V:Hid (kB l f p (s,2)=Qaj s++([2]++mB (dsK l p (s,2) l.length) 2)):=hid (by unfold kB;rw [if_neg (show¬(2:Int)=3 by decide)]);obtain⟨z,r,Ha,P,Z⟩:=Qc5 w0.heap.size v3 _ [2] ⟨J.heap.size,0,none⟩ 1 1 (J.alloc (.cells #[.int .u8 2] 5)) (World.ownsRow.alloc Hn _) rfl (fun i u hu=>cell_one_new _ _ _ i u hu) (by have:=H.1;have:=Hp.out;simp;omega) (by have q:=Q.out;rw [V.out] at q;simp only [List.length_append] at q ⊢;simp at q ⊢;omega);have o:Gr B r u1 z:=Hk.trans ((Gr.alloc (Gr.refl J v3) _).trans Z);have S:=o.g.cell L.c0 C;have Hc:=o.g.cell L.c1 C;have t:=Gd.trans o;have D:=t.g.cell H6.c0 Hr;have I:Bl w0 r:=H2.trans (t.bw H.1 (fun k E=>(Hb k E).1));have H1:w1.heap.size<=r.heap.size:=by have q:=Hp.out;have A:=Z.g.size;simp at A;omega
     have Ho:=hid P;have Hs:=hid t;have H3:=hid I;have Hu:Hid ((zs++Qaj s++[2]).length+(mB (dsK l p (s,2) l.length) 2).length<=90000000):=hid (by have q:=Q.out;rw [V.out] at q;simp only [List.length_append] at q ⊢;omega);obtain⟨a1,Hd⟩:=zE (mF (N (Qac p 3++[(s,2)])));obtain⟨a2,He⟩:=zE (mS (N (Qac p 3++[(s,2)])));have Hg:=hid (Hm (.inr rfl));rw [Hd,He] at X Hg;have Hj:Hid (some w.heap.size≠z.ownBlock/\ some wr.heap.size≠z.ownBlock):=hid ⟨by
      rcases t.l with e|⟨j,e,hj⟩
      ·rw [e];exact Hr
      ·rw [e];intro M;injection M with M;have:=H.2.1;omega,by
      rcases o.l with e|⟨j,e,hj⟩
      ·rw [e];exact C
      ·rw [e];intro M;injection M with M;have:=L.lt;omega⟩
     have Hw:Hid (∀w',Bl w0 w' ->w'.cell? ⟨w.heap.size,0,none⟩=some (.map m0) ->w'.cell? ⟨wr.heap.size,0,none⟩=some (.string s) ->w'.cell? ⟨wr.heap.size,1,none⟩=some (.int .i64 2) ->(Bl w0 w'/\ w'.cell? ⟨w.heap.size,0,none⟩=some (.map m0)/\ w'.cell? ⟨wr.heap.size,0,none⟩=some (.string s)/\ w'.cell? ⟨wr.heap.size,1,none⟩=some (.int .i64 2)/\ (Instr.lookup 153 (.map m0) (.agg #[.string s,.int .i64 2]) false).run Tryz.prog w'=.ok (.agg #[.map a1,.map a2]) w')):=hid (fun w' q A h3 h4=>⟨q,A,h3,h4,X w' q⟩);clear P Z o t I Hm X Hd He Q Hn Hk;go_wp2_with (at_builtin;refine Qab rfl _ _ _ _ rfl Ha (by rfl) (by rfl) rfl ?_;clear Ha);refine zG Hw H3.drew D S Hc (fun qh=> ?_);refine tZ 0 40 ?_;refine tZ 1 41 ?_;refine tZ 2 42 ?_;refine tZ 3 43 ?_;refine tZ 4 44 ?_;refine tZ 5 45 ?_;refine tZ 6 46 ?_;refine cZ 7 ?_;intro K hK;go_simp;refine(Hg z _ _ qh.1 (World.ownsRow.drew Ho) (by have:=Hu.out;omega)).mono ?_;rintro e U ⟨v6,rfl,o6,G⟩;have O:Gr r U z v6:=(show Gr r r.drew z z from⟨⟨rfl,rfl,rfl,Nat.le_refl _,fun _ _ _=>rfl⟩,.inl rfl⟩).trans G;have Hy:Bl w0 U:=qh.1.trans (G.bw qh.1.size (fun k E=>(World.ownsRow.lt Ho k E).1));refine hK.out _ _ (Hw _ Hy (O.g.cell D Hj.1) (O.g.cell S Hj.2) (O.g.cell Hc Hj.2)) (fun qh=> ?_);clear hK K;try simp only [zP]
     refine tZ 8 1 ?_;refine zD ?_;have Hv:Hid (Own U w0.heap.size v6 (zs0++(uvF 9 m.length++(m.take (k+1)).flatMap (kB l f p)))):=hid (by rw [Hf.out,V.out];simpa using o6);have Ht:=hid (Hs.trans O);have Hx:Hid (w1.heap.size<=U.heap.size):=hid (by have:=O.g.size;omega);clear o6 G O Hy qh S Hc D H1 Gk Hg;go_wp2_with fail;go_roundw;case rel=>exact⟨k+1,H8,by go_num,Hv,Ht,Hx⟩
     case measure=>simp [intOf];omega
    ·have V:Hid (kB l f p (s,3)=Qaj s++([3]++tB l f (p++[s]))):=hid (by unfold kB;rw [if_pos rfl]);obtain⟨z,r,Ha,P,Z⟩:=Qc5 w0.heap.size v3 _ [3] ⟨J.heap.size,0,none⟩ 1 1 (J.alloc (.cells #[.int .u8 3] 5)) (World.ownsRow.alloc Hn _) rfl (fun i u hu=>cell_one_new _ _ _ i u hu) (by have:=H.1;have:=Hp.out;simp;omega) (by have q:=Q.out;rw [V.out] at q;simp only [List.length_append] at q ⊢;simp at q ⊢;omega);have o:Gr B r u1 z:=Hk.trans ((Gr.alloc (Gr.refl J v3) _).trans Z);have S:=o.g.cell L.c0 C;have Hc:=o.g.cell L.c1 C;have t:=Gd.trans o;have D:=t.g.cell H6.c0 Hr;have I:Bl w0 r:=H2.trans (t.bw H.1 (fun k E=>(Hb k E).1));have H1:w1.heap.size<=r.heap.size:=by have q:=Hp.out;have A:=Z.g.size;simp at A;omega
     have Ho:=hid P;have Hs:=hid t;have H3:=hid I;have Hu:Hid ((zs++Qaj s++[3]).length+(tB l f (p++[s])).length<=90000000):=hid (by have q:=Q.out;rw [V.out] at q;simp only [List.length_append] at q ⊢;omega);have G1:=X r I;obtain⟨a1,Hd⟩:=zE (mF (N (Qac p 3++[(s,3)])));obtain⟨a2,He⟩:=zE (mS (N (Qac p 3++[(s,3)])));have Gc:=hid (G7 s G3 z _ r I P Hu);rw [Hd,He] at G1 Gc;clear P Z o t I Hm X Hd He Q Hn Hk;go_wp2_with (at_builtin;refine Qab rfl _ _ _ _ rfl Ha (by rfl) (by rfl) rfl ?_;clear Ha);refine Gc.mono ?_;rintro e U ⟨v6,rfl,o6,G⟩;have Hv:Hid (Own U w0.heap.size v6 (zs0++(uvF 9 m.length++(m.take (k+1)).flatMap (kB l f p)))):=hid (by rw [Hf.out,V.out];simpa using o6);have Ht:=hid (Hs.trans G);have Hx:Hid (w1.heap.size<=U.heap.size):=hid (by have:=G.g.size;omega);clear o6 G G1 S Hc D Gc H1 Gk;go_wp2_with fail;go_roundw;case rel=>exact⟨k+1,H8,by go_num,Hv,Ht,Hx⟩
     case measure=>simp [intOf];omega
   ·obtain rfl:k=m.length:=by omega
    have HF:Hid (zs0++(uvF 9 m.length++(m.take m.length).flatMap (kB l f p))=zs0++TB):=hid (by rw [List.take_length,Gs.out]);go_wp2_with fail;go_ret;refine⟨_,rfl,by rw [<- HF.out];exact H4,?_⟩;exact(Gr.of_below (b:=bv) Ga).trans Hl
theorem Qfo (a:Option Addr)(c:Nat)(l:List Lf)(x:Option Addr)(n d:Nat)(R F T:Nat ->Int)(w:World)(hn:l.length<=1048576)(hp:LBd l)(hi:∀i,LfI (gL l i))(hm:n<=1048576)(h:QbD w a l)(h':Qa7 w x n R F T):
  Cl 81 #[.agg #[.slice a l.length c,.slice x n d]] w fun e w'=>∃v zs k,e=.returned (.tuple #[v,.int .i64 k])/\ psZ R F T n l=(zs,k)/\ Own w' w.heap.size v zs/\ Bl w w':=by
 obtain⟨W,y⟩:=zE (w.alloc (.cells #[.slice a l.length c,.slice x n d] 40));have s:Bl w W:=by rw [<- y];exact zO _ _
 have S:Bx2 W w.heap.size (.slice a l.length c) (.slice x n d):=by rw [<- y];exact Bx2.made _ _ _ _
 obtain⟨k0,k1⟩:=S.q2;have HL:=hid (h.bw s);have HR:=hid (h'.bw s);have Hb:=hid s;clear h h' s S;by_cases j:QaT R F T n l
 ·have z:=hid (Qej a c l x n d R F T W hn hp hi hm HL HR j);have Hg:=hid (fun h=>QiK j h);have Hf:=hid (fun h=>Qhd j h);have Hi:=hid (And.intro j.put_len j.tree_len);have Hd:Hid ((psB R F T n l).length<=1000000000):=hid (by have h1:=j.put_len;have h2:=j.tree_len;unfold psB;rw [List.length_append];omega);have He:Hid (QfE (Lk R F T n)++tB l 8 []=psB R F T n l):=hid rfl;obtain⟨Z,L⟩:=zE (psB R F T n l);obtain⟨P,u⟩:=zE (psZ R F T n l);rw [L,u] at Hg Hf;rw [L] at Hd He;rw [u];clear L u;have p:=hid j;clear j;go_enter Tryz.func81,Tryz.ntmps81;go_wp2_with fail;try rw [y]
  clear y;refine z.mono ?_;rintro e w1 ⟨⟨x0,I,D,G,N,B,rfl,Ha,_,_,_,hT,hN,hI⟩,g⟩;obtain⟨m,M⟩:=zE (w1.alloc (.cells #[.map (some x0.1),.map (some x0.2),.map (some I)] 160));have A:Bl w1 m:=by rw [<- M];exact zO _ _
  have H:Bx3 m w1.heap.size (.map (some x0.1)) (.map (some x0.2)) (.map (some I)):=by rw [<- M];exact Bx3.made _ _ _ _ _
  obtain⟨c0,c1,c2⟩:=H.q3;have Q:=hid H;have HZ:=hid (Qaa Hb (Qaa g A));have E:=Qax.1 p.1;have HA:=hid (fun q(hb3:Bl m q)=>QhN ((Ha.bw A).bw hb3) (hid (fun r=>Nat.le_trans (Qbo R F T n r) E.2)) (hid (fun r=>(Qcg n E.1 r).1)) (hid (QdT n E.1)));have Hh:Hid (∀(bv:Value) (q:World),Bl m q ->Own q m.heap.size bv (QfE (Lk R F T n)) ->Cl 107 #[.agg #[.map (some x0.1),.map (some x0.2)],bv] q fun e w'=>∃v,e=.returned v/\ Own w' m.heap.size v Z/\ Gr q w' bv v):=hid (fun bv q hb3 ho3=>by
   have:=Qfd l m B (9*l.length) N (hT.bw A) hI (by have:=p.2.1;omega) p.2.2.1 p.lvB 8 [] rfl (by omega) bv _ q hb3 ho3 (by have:=Hi.out;omega);rw [show N (Qac [] 3)=some x0 from hN,He.out] at this;exact this)
  clear g A H hT hN hI Ha z k0 k1 E;go_wp2_with fail;try rw [M]
  clear M;have b:Hid (∀w',Bl m w' ->(Bl m w'/\ w'.cell? ⟨w1.heap.size,0,none⟩=some (.map (some x0.1))/\ w'.cell? ⟨w1.heap.size,1,none⟩=some (.map (some x0.2))/\ w'.cell? ⟨w1.heap.size,2,none⟩=some (.map (some I)))):=hid (fun w' hB=>by
   have X:=Q.bw hB Q.lt;exact⟨hB,X.c0,X.c1,X.c2⟩)
  clear c0 c1 c2 Q;refine zS b (fun qh=> ?_);refine tZ 0 14 ?_;refine tZ 1 15 ?_;refine tZ 2 16 ?_;refine tZ 3 17 ?_;refine cZ 4 ?_;intro K o;go_simp;refine(HA _ qh.1).mono ?_;rintro e q ⟨v3,rfl,o3,b3⟩;have t:=Qaa qh.1 b3;have U:=hid (Own.weak o3 qh.1.size);refine o.out _ _ (b _ t) (fun qh=> ?_);clear o K;try simp only [zP]
  refine cZ 5 ?_;intro K o;go_simp;refine(Hh v3 q t U).mono ?_;rintro e w4 ⟨v4,rfl,C,g4⟩;have J:Bl m w4:=t.trans (g4.bw t.size (fun k hk=>(World.ownsRow.lt U k hk).1));refine o.out _ _ (b _ J) (fun qh=> ?_);clear o K;try simp only [zP]
  refine tZ 6 6 ?_;refine zD ?_;have Hc:=hid (Qaa HZ J);have Hj:=hid (Own.weak C HZ.size);obtain⟨av,cv,rfl,_⟩:=C.any;have Hk:=Hd.out;clear g4 C U t J b3 o3 qh Hh HA b;by_cases hz:Z.length<=4000
  ·have V:=hid (Hg hz);have d1:decide ((4000:Int)<(Z.length:Int))=false:=by simp;omega
   have d2:decide (4000<Z.length)=false:=by simp;omega
   go_wp2_with fail;go_ret2;exact⟨_,Z,0,rfl,V,Hj,Hc⟩
  ·have V:=hid (Hf hz);have d1:decide ((4000:Int)<(Z.length:Int))=true:=by simp;omega
   have d2:decide (4000<Z.length)=true:=by simp;omega
   go_wp2_with fail;go_ret2;exact⟨_,[],2,rfl,V,World.ownsRow_nil _ _ _ _,Hc⟩
 ·have z:=hid (Qd9 a c l x n d R F T W hn hp hi hm HL HR j);have Y:=hid (Qk5 j);obtain⟨P,u⟩:=zE (psZ R F T n l);rw [u] at Y;rw [u];clear u j;go_enter Tryz.func81,Tryz.ntmps81;go_wp2_with fail;try rw [y]
  clear y;refine z.mono ?_;rintro e w1 ⟨rfl,g⟩;have O:=hid (Qaa Hb g);clear g z k0 k1;go_wp2_with fail;go_ret2;first|exact⟨_,[],1,rfl,Y,World.ownsRow_nil _ _ _ _,O⟩|exact⟨_,[],1,rfl,Y,World.ownsRow_nil _ _ _ _,O.alloc O.size _⟩
noncomputable def sxZ (S:Sx):List Int×Int:=psZ S.R S.F S.T S.n S.l
noncomputable def QcG (S:Sx):Bool:=decide ((sxZ S).2=0)
noncomputable def rpB (id:Int)(S S':Sx):Bool:=decide (0<=id) && (decide (id<8) && (QcG S && QcG S'))
theorem QiR (a x:Option Addr)(c d:Nat)(S:Sx)(w:World)(hc:S.l.length<=c)(hcm:c<=9223372036854775807)(hm:S.Sm)(h:QcF w a S.l)(h':Qa7 w x S.n S.R S.F S.T):
  Cl 41 #[.agg #[.slice a S.l.length c,.slice x S.n d]] w fun e w'=>∃v zs k,e=.returned (.tuple #[v,.int .i64 k])/\ sxZ S=(zs,k)/\ Own w' w.heap.size v zs/\ Bl w w':=
 Qf7 a c S.l x S.n d S.R S.F S.T w hc hcm hm.l1 hm.p1 hm.n1 h h.seg h'
theorem Qir (a x:Option Addr)(c d:Nat)(S:Sx)(w:World)(hi:∀i,LfI (gL S.l i))(hm:S.Sm)(h:SAt w a x S):
  Cl 81 #[.agg #[.slice a S.l.length c,.slice x S.n d]] w fun e w'=>∃v zs k,e=.returned (.tuple #[v,.int .i64 k])/\ sxZ S=(zs,k)/\ Own w' w.heap.size v zs/\ Bl w w':=
 Qfo a c S.l x S.n d S.R S.F S.T w hm.l1 hm.p1 hi hm.n1 h.lf h.rn
theorem QgR (a x:Option Addr)(c d:Nat)(S:Sx)(w:World)(hc:S.l.length<=c)(hcm:c<=9223372036854775807)(hm:S.Sm)(h:QcF w a S.l)(h':Qa7 w x S.n S.R S.F S.T):
  Cl 21 #[.agg #[.slice a S.l.length c,.slice x S.n d]] w (Rt w (.bool (QcG S))):=by
 obtain⟨W,m⟩:=zE (w.alloc (.cells #[.slice a S.l.length c,.slice x S.n d] 40));have j:Bl w W:=by rw [<- m];exact zO _ _
 have r:Bx2 W w.heap.size (.slice a S.l.length c) (.slice x S.n d):=by rw [<- m];exact Bx2.made _ _ _ _
 obtain⟨k0,p⟩:=r.q2;have u:=hid (QiR a x c d S W hc hcm hm (h.bw j) (h'.bw j));have t:=hid j;have q:Hid (QcG S=decide ((sxZ S).2=0)):=hid rfl;obtain⟨B,z⟩:=zE (QcG S);rw [z] at q ⊢;clear j r h h' z;go_enter Tryz.func21,Tryz.ntmps21;go_wp2_with fail;try rw [m]
 clear m;refine u.mono ?_;rintro e w1 ⟨v,s,k,rfl,g,b,y⟩;have o:=hid (Qaa t y);have i:Hid (B=(k==0)):=hid (by rw [q.out,g];rfl);clear y b g u k0 p q;go_wp2_with fail;go_ret;exact⟨by rw [i.out];rfl,o⟩
theorem Qny (a x:Option Addr)(c d:Nat)(S:Sx)(w:World)(hi:∀i,LfI (gL S.l i))(hm:S.Sm)(h:SAt w a x S):
  Cl 48 #[.agg #[.slice a S.l.length c,.slice x S.n d]] w (Rt w (.bool (QcG S))):=by
 obtain⟨W,j⟩:=zE (w.alloc (.cells #[.slice a S.l.length c,.slice x S.n d] 40));have q:Bl w W:=by rw [<- j];exact zO _ _
 have r:Bx2 W w.heap.size (.slice a S.l.length c) (.slice x S.n d):=by rw [<- j];exact Bx2.made _ _ _ _
 obtain⟨k0,s⟩:=r.q2;have u:=hid (Qir a x c d S W hi hm (h.bw q));have t:=hid q;have m:Hid (QcG S=decide ((sxZ S).2=0)):=hid rfl;obtain⟨B,z⟩:=zE (QcG S);rw [z] at m ⊢;clear q r h z;go_enter Tryz.func48,Tryz.ntmps48;go_wp2_with fail;try rw [j]
 clear j;refine u.mono ?_;rintro e w1 ⟨v,A,k,rfl,g,p,y⟩;have o:=hid (Qaa t y);have b:Hid (B=(k==0)):=hid (by rw [m.out,g];rfl);clear y p g u k0 s m;go_wp2_with fail;go_ret;exact⟨by rw [b.out];rfl,o⟩
theorem QeN (id:Int)(a x a' x':Option Addr)(c d c' d':Nat)(S S':Sx)(w:World)(hc:S.l.length<=c)(hcm:c<=9223372036854775807)(hc':S'.l.length<=c')(hcm':c'<=9223372036854775807)(hm:S.Sm)(hm':S'.Sm)(h:QcF w a S.l)(k:Qa7 w x S.n S.R S.F S.T)(h':QcF w a' S'.l)(k':Qa7 w x' S'.n S'.R S'.F S'.T):
  Cl 17 #[.agg #[.int .i64 id,.slice a S.l.length c,.slice x S.n d,.slice a' S'.l.length c',.slice x' S'.n d']] w (Rt w (.bool (rpB id S S'))):=by
 obtain⟨W,q⟩:=zE (w.alloc (.cells #[.int .i64 id,.slice a S.l.length c,.slice x S.n d,.slice a' S'.l.length c',.slice x' S'.n d'] 42));have m:Bl w W:=by rw [<- q];exact zO _ _
 have v:Bx5 W w.heap.size (.int .i64 id) (.slice a S.l.length c) (.slice x S.n d) (.slice a' S'.l.length c') (.slice x' S'.n d'):=by rw [<- q];exact Bx5.new _ _ _ _ _ _ _
 have z:=hid (fun w1(hb:Bl W w1)=>QgR a x c d S w1 hc hcm hm (h.bw (Qaa m hb)) (k.bw (Qaa m hb)));have g:=hid (fun w1(hb:Bl W w1)=>QgR a' x' c' d' S' w1 hc' hcm' hm' (h'.bw (Qaa m hb)) (k'.bw (Qaa m hb)));have r:Hid (rpB id S S'=(decide (0<=id) && (decide (id<8) && (QcG S && QcG S')))):=hid rfl;obtain⟨B,s⟩:=zE (rpB id S S');obtain⟨M,A⟩:=zE (QcG S);obtain⟨O,E⟩:=zE (QcG S');rw [s,A,E] at r;rw [A] at z;rw [E] at g;rw [s];have y:=hid m;have o:=hid v;obtain⟨L,N,X,C,D⟩:=v.q5;clear h h' k k' m v s A E;by_cases Y:0<=id
 ·have b:decide (0<=id)=true:=by simpa using Y
  have H:decide (id<0)=false:=by simp;omega
  by_cases Z:id<8
  ·have p:decide (id<8)=true:=by simpa using Z
   have I:decide (8<=id)=false:=by simp;omega
   have j:Hid (B=(M && O)):=hid (by rw [r.out,b,p];simp);go_enter Tryz.func17,Tryz.ntmps17;go_wp2_with fail;try rw [q]
   clear q;refine(z _ zI).mono ?_;rintro e w1 ⟨rfl,u⟩;have i:=o.bw u o.lt;have J:=i.c3;have K:=i.c4;have Q:=hid (Qaa y u);have U:=hid (g w1 u);clear u i L N X C D z g o;cases M with
   | false=>
    have t:Hid (B=false):=hid (by rw [j.out];rfl);go_wp2_with fail;go_ret;exact⟨by rw [t.out];rfl,Q⟩
   | true=>
    have t:Hid (B=O):=hid (by rw [j.out];rfl);go_wp2_with fail;refine U.mono ?_;rintro e P ⟨rfl,V⟩;have G:=hid (Qaa Q V);clear V U J K;go_wp2_with fail;go_ret;exact⟨by rw [t.out];rfl,G⟩
  ·have p:decide (id<8)=false:=by simpa using Z
   have I:decide (8<=id)=true:=by simp;omega
   have j:Hid (B=false):=hid (by rw [r.out,p];simp);go_enter Tryz.func17,Tryz.ntmps17;go_wp2_with fail;try rw [q]
   go_ret;exact⟨by rw [j.out];rfl,y⟩
 ·have b:decide (0<=id)=false:=by simpa using Y
  have H:decide (id<0)=true:=by simp;omega
  have j:Hid (B=false):=hid (by rw [r.out,b];simp);go_enter Tryz.func17,Tryz.ntmps17;go_wp2_with fail;try rw [q]
  go_ret;exact⟨by rw [j.out];rfl,y⟩
theorem Qne (id:Int)(w:World):Cl 77 #[.int .i64 id] w fun e w'=>e=.returned (.bool (decide (0<=id) && decide (id<8)))/\ w'=w:=by
 by_cases m:0<=id
 ·have j:decide (0<=id)=true:=by simpa using m
  by_cases q:id<8
  ·have k:decide (id<8)=true:=by simpa using q
   rw [j,k];go_enter Tryz.func77,Tryz.ntmps77;go_wp2_with fail;go_ret;exact⟨rfl,rfl⟩
  ·have k:decide (id<8)=false:=by simpa using q
   rw [j,k];go_enter Tryz.func77,Tryz.ntmps77;go_wp2_with fail;go_ret;exact⟨rfl,rfl⟩
 ·have j:decide (0<=id)=false:=by simpa using m
  rw [j];go_enter Tryz.func77,Tryz.ntmps77;go_wp2_with fail;go_ret;exact⟨rfl,rfl⟩
theorem Qe6 (id:Int)(a x a' x':Option Addr)(c d c' d':Nat)(S S':Sx)(w:World)(hi:∀i,LfI (gL S.l i))(hi':∀i,LfI (gL S'.l i))(hm:S.Sm)(hm':S'.Sm)(h:SAt w a x S)(h':SAt w a' x' S'):
  Cl 45 #[.agg #[.int .i64 id,.slice a S.l.length c,.slice x S.n d,.slice a' S'.l.length c',.slice x' S'.n d']] w (Rt w (.bool (rpB id S S'))):=by
 obtain⟨W,m⟩:=zE (w.alloc (.cells #[.int .i64 id,.slice a S.l.length c,.slice x S.n d,.slice a' S'.l.length c',.slice x' S'.n d'] 42));have u:Bl w W:=by rw [<- m];exact zO _ _
 have y:Bx5 W w.heap.size (.int .i64 id) (.slice a S.l.length c) (.slice x S.n d) (.slice a' S'.l.length c') (.slice x' S'.n d'):=by rw [<- m];exact Bx5.new _ _ _ _ _ _ _
 have g:=hid (fun w1(hb:Bl W w1)=>Qny a x c d S w1 hi hm (h.bw (Qaa u hb)));have t:=hid (fun w1(hb:Bl W w1)=>Qny a' x' c' d' S' w1 hi' hm' (h'.bw (Qaa u hb)));have r:Hid (rpB id S S'=(decide (0<=id) && (decide (id<8) && (QcG S && QcG S')))):=hid rfl;obtain⟨B,A⟩:=zE (rpB id S S');obtain⟨O,E⟩:=zE (QcG S);obtain⟨Q,M⟩:=zE (QcG S');rw [A,E,M] at r;rw [E] at g;rw [M] at t;rw [A];have b:=hid (fun w=>Qne id w);have z:=hid u;have p:=hid y;obtain⟨X,C,D,F,P⟩:=y.q5;clear h h' u y A E M;by_cases Z:0<=id
 ·have k:decide (0<=id)=true:=by simpa using Z
  have J:decide (id<0)=false:=by simp;omega
  by_cases G:id<8
  ·have q:decide (id<8)=true:=by simpa using G
   have K:decide (8<=id)=false:=by simp;omega
   have j:Hid (B=(O && Q)):=hid (by rw [r.out,k,q];simp);go_enter Tryz.func45,Tryz.ntmps45;go_wp2_with fail;refine(b _).mono ?_;rintro e H ⟨rfl,rfl⟩;rw [k,q];go_wp2_with fail;try rw [m]
   clear m;refine(g _ zI).mono ?_;rintro e w1 ⟨rfl,v⟩;have s:=p.bw v p.lt;have L:=s.c3;have N:=s.c4;have U:=hid (Qaa z v);have V:=hid (t w1 v);clear v s X C D F P g t p;cases O with
   | false=>
    have o:Hid (B=false):=hid (by rw [j.out];rfl);go_wp2_with fail;go_ret;exact⟨by rw [o.out];rfl,U⟩
   | true=>
    have o:Hid (B=Q):=hid (by rw [j.out];rfl);go_wp2_with fail;refine V.mono ?_;rintro e R ⟨rfl,Y⟩;have I:=hid (Qaa U Y);clear Y V L N;go_wp2_with fail;go_ret;exact⟨by rw [o.out];rfl,I⟩
  ·have q:decide (id<8)=false:=by simpa using G
   have K:decide (8<=id)=true:=by simp;omega
   have j:Hid (B=false):=hid (by rw [r.out,q];simp);go_enter Tryz.func45,Tryz.ntmps45;go_wp2_with fail;refine(b _).mono ?_;rintro e H ⟨rfl,rfl⟩;rw [k,q];go_wp2_with fail;try rw [m]
   go_ret;exact⟨by rw [j.out];rfl,z⟩
 ·have k:decide (0<=id)=false:=by simpa using Z
  have J:decide (id<0)=true:=by simp;omega
  have j:Hid (B=false):=hid (by rw [r.out,k];simp);go_enter Tryz.func45,Tryz.ntmps45;go_wp2_with fail;refine(b _).mono ?_;rintro e H ⟨rfl,rfl⟩;rw [k];go_wp2_with fail;try rw [m]
  go_ret;exact⟨by rw [j.out];rfl,z⟩
end Go.Proofs.YtgmjgboibfdaeaaGreatDoor
