import Derived.Test.YtdeolligikjieaaGreatDoorFkg08
import Derived.Test.YtdeolligikjieaaGreatDoorFkhShel2
import Derived.Shelf.SlIter.Collect
import Derived.Sort.MapsRangeIn
import Derived.WalkSmall
import Derived.Shelf.SlSortCmp.NoneTotal
import Derived.RangeFuncBound
import Derived.Test.YtdeolligikjieaaGreatDoorFkg09
import Derived.Test.YtdeolligikjieaaGreatDoorFkg13
import Derived.Test.YtdeolligikjieaaGreatDoorFkg10
import Derived.Test.YtdeolligikjieaaGreatDoorFkg12
set_option linter.unusedVariables false
set_option linter.unusedSimpArgs false
set_option maxRecDepth 100000
set_option maxHeartbeats 40000000
namespace Go.Proofs.YtdeolligikjieaaGreatDoor
open Go.ChangeShapes Go.WideShapes Go.ChangeAt Go.RowKit Go.Maps Go.Sort Go.Lib Go.Shelf
theorem Qg2 (n l Bm b nn:Nat)(f:Ky ->Option (Nat×Nat))(D0:DataW Value)(J:List Ky ->World ->Prop)(hn:1<=n)
  (hY:∀pre x W,J pre W ->pre.length<Maps.size D0 ->YieldAt Fence.wide (n - 1) Tryz.prog l #[Qbs x] W fun e W'=>e=.returned (.bool true)/\ J (pre++[x]) W'/\ KeepsWalks W W')
  (W:World) (hJ:AbidesFrom W.heap.size J) (hm:W.cell? ⟨Bm,0,none⟩=some (.map (some b))) (hF:FM W 88 Qbs Qdg b nn f D0) (h0:J [] W):
  CallsIn Fence.wide n Tryz.prog 94 #[.func (.yield l) #[] #[],.pointer (some ⟨Bm,0,none⟩)] W fun e W'=>(∃v,e=.returned v)/\∃j,Qd0 f j/\ J j W':=by
 have P:=hF.own;have z:=hid hF;have h:=hid hJ;have V:=hid hY;clear hF hJ hY;refine callsIn_of_wp Tryz.func94 rfl trivial ?_ rfl;simp only [Tryz.ntmps94,List.size_toArray,List.length_cons,List.length_nil,Nat.reduceAdd,Nat.reduceSub,Array.replicate_succ,Array.replicate_zero,List.push_toArray,List.append_toArray,List.nil_append,List.cons_append];gi_wp2_with (first
  | (gi_at_range;refine wpListIn_range_own _ rfl _ 42 rfl 88 45 Qbz Tryz.underlying42 _ b nn _ rfl P ?_;intro w0 R L He)
  | gi_in)
 try go_frame
 gi_loopw [3] (fun _ wr=>∃(i:Lit ->Bool) (t:Nat) (j:List Ky),wr.ranges Tryz.prog 88 Qit b W.heap.size nn D0 i t/\ j.length+t<=Maps.size D0/\ Qdz 88 Qbs f i j/\ J j wr)
  (fun _ wr=>wr.rangeLeft b W.heap.size)
 case atStart=>exact⟨_,_,[],R,by simp,Qdz.start z.out,h.out [] W w0 none h0 L (fun r e=>by cases e)⟩
 case round=>
  obtain⟨i,t,j,o,O,A,E⟩:=hrel;have p:=hid A;have s:=hid O;clear A O;gi_wp2_with (first
   | (gi_at_next;refine wpListIn_next_ranges _ rfl _ rfl 88 Qbz Qit Qbs id (fun key kl hk=>QiW hk) (fun v _ _=>⟨v,rfl⟩) b W.heap.size nn _ _ _ rfl o ?_ ?_)
   | gi_in)
  ·intro Hd C;gi_wp2
   go_end0;exact⟨⟨_,rfl⟩,j,p.done z.out C,E⟩
  ·intro u q c kl yd yp k Y B D hv I S F N T K;have Z:J j k:=h j wr k (some W.heap.size) E N (fun r e=>by cases e;exact⟨Nat.le_refl _,o.iter_walk⟩);obtain⟨m,y⟩:∃m,k.alloc (.cells #[.string u,.int .i64 q] 88)=m:=⟨_,rfl⟩;have G:J j m:=by rw [<- y];exact h j k _ none Z (World.grownBy_alloc k _ none) (fun r e=>by cases e)
   obtain⟨fn,Hc,Ha,Hb,hy,M⟩:=V j (u,q) m G (by have:=s.out;omega);have g:Bx2 m k.heap.size (.string u) (.int .i64 q):=by rw [<- y];exact Bx2.made _ _ _ _
   have Q:=S.alloc (.cells #[.string u,.int .i64 q] 88);rw [y] at Q;have q0:=g.c0;have q1:=g.c1;clear T g;dsimp only [Qbs] at K hy M ⊢;gi_wp2
   try rw [y]
   refine M.mono ?_;rintro e W3 ⟨rfl,H,X⟩;gi_wp2
   have U:=Q.of_walks X;go_roundw;case rel=>exact⟨_,Y,j++[(u,q)],U,by have:=s.out;simp;omega,p.step z.out Qbz (fun _ _=>QeZ) B D I,H⟩
   case measure=>rw [U.left_eq,o.left_eq];exact F
def kCells (x:Ky):List Value:=[.string x.1,.int .i64 x.2]
def kRow (ss:List Ky):List Value:=ss.flatMap kCells
theorem QdI (ss:List Ky)(x:Ky):kRow (ss++[x])=kRow ss++kCells x:=by simp [kRow]
theorem Qmk:(Tryz.prog.info? 88).map (fun i=>(i.zero,i.size,i.bytes))=some (some (.agg #[.string ByteArray.empty,.int .i64 0]),2,24):=by kernel_rfl
def apA:Code:=(Code.region 2 #[{dst:=some 5,op:=Op.alloc 88,type:=0,pos:= "iter.go:51",after:=#[],guard:=none},{dst:=none,op:=Op.store 88 (Operand.tmp 5) (Operand.tmp 7),type:=0,pos:= "iter.go:51",after:=#[{on:=0,ground:=Ground.data},{on:=0,ground:=Ground.phase}],guard:=none}] false)
def apB:Code:=(Code.block 1 (Code.region 3 #[{dst:=some 8,op:=Op.load 83 (Operand.tmp 2),type:=83,pos:= "iter.go:52",after:=#[],guard:=none},{dst:=some 9,op:=Op.load 88 (Operand.tmp 5),type:=88,pos:= "iter.go:52",after:=#[],guard:=none},{dst:=some 10,op:=Op.buildSlice 83 1 #[(0,Operand.tmp 9)],type:=83,pos:= "iter.go:52",after:=#[{on:=1,ground:=Ground.data}],guard:=none},{dst:=some 11,op:=Op.call {callee:=Callee.builtin Builtin.append,args:=#[Operand.tmp 8,Operand.tmp 10],argTypes:=#[83,83]},type:=83,pos:= "iter.go:52",after:=#[{on:=0,ground:=Ground.data},{on:=2,ground:=Ground.data}],guard:=none},{dst:=none,op:=Op.store 83 (Operand.tmp 2) (Operand.tmp 11),type:=0,pos:= "iter.go:52",after:=#[{on:=3,ground:=Ground.data},{on:=3,ground:=Ground.chain},{on:=0,ground:=Ground.phase},{on:=1,ground:=Ground.phase},{on:=2,ground:=Ground.phase},{on:=3,ground:=Ground.phase}],guard:=none}] false))
def Qbq (fn:FuncId)(sv:Value)(Bs D:Nat)(st:LoopState):Loop:=
 {state:=st,pending:=none,fn,tmps:=#[.slice none 0 0,sv,.pointer (some ⟨Bs,0,none⟩),undef,.slice none 0 0,undef,sv,undef,undef,undef,undef,undef,undef],params:=#[7],assign:=apA,body:=apB,defers:=D}
structure QhJ (w0:World)(fn:FuncId)(sv:Value)(Bs l D:Nat)(ss:List Ky)(W:World):Prop where
 box:∃v,W.heap[Bs]? =some (.cells #[v] 83 (0,0))/\ W.ownsRow w0.heap.size 88 2 v ss.length (kRow ss)/\ (v=.slice none 0 0↔ss=[])
 L:W.heap[l]? =some (.loop (Qbq fn sv Bs D .ready))
 K:W.heap[D]? =some (.deferred (some []))
 below:RowKit.Below w0.heap.size w0 W
theorem QbW (w0:World)(fn:FuncId)(sv:Value)(Bs l D B:Nat)(hB:w0.heap.size<=B):AbidesFrom B (QhJ w0 fn sv Bs l D):=fun s W W' row h hg hrow=>by
 have j:∀r,row=some r ->∃o:Obj,W.heap[r]? =some o/\ o.isWalk=true:=fun r e=>(hrow r e).2;obtain⟨v,m,u,q⟩:=h.box;exact⟨⟨v,(grownBy_keeps hg j m rfl).trans m,ownsRow_abides_a u hg j,q⟩,(grownBy_keeps hg j h.L rfl).trans h.L,(grownBy_keeps hg j h.K rfl).trans h.K,h.below.grown hg h.below.size (fun k e=>Nat.le_trans hB (hrow k e).1)⟩
theorem QeF (m:Nat)(w0:World)(fn:FuncId)(sv:Value)(Bs l D:Nat)(hBl:Bs≠l)(hDl:D≠l)(hDB:D≠Bs)(h0B:w0.heap.size<=Bs)(h0l:w0.heap.size<=l)
    (N:Nat) (hN:N<=maxLen) (hNb:N*24<=140737488355328) (ss:List Ky) (x:Ky) (W:World) (h:QhJ w0 fn sv Bs l D ss W) (hlen:ss.length<N):
    YieldAt Fence.wide m Tryz.prog l #[Qbs x] W fun e W'=>e=.returned (.bool true)/\ QhJ w0 fn sv Bs l D (ss++[x]) W'/\ KeepsWalks W W':=by
  have Hj:83≠88:=by decide
  obtain⟨i0,hi,Ht,Hu,Hv⟩:=info_parts Qmk;refine⟨fn,#[.slice none 0 0,sv,.pointer (some ⟨Bs,0,none⟩),undef,.slice none 0 0,undef,sv,Qbs x,undef,undef,undef,undef,undef],apA,apB,by simpa [Qbq] using run_yield (P:=Tryz.prog) (args:=#[Qbs x]) h.L rfl,roundIn_of_wpIn trivial ?_⟩;obtain⟨s,p⟩:=x;obtain⟨y,X⟩:∃y,W.alloc (.cells #[.string s,.int .i64 p] 88)=y:=⟨_,rfl⟩;have z:QhJ w0 fn sv Bs l D ss y:=by rw [<- X];exact QbW w0 fn sv Bs l D w0.heap.size zL ss W _ none h (World.grownBy_alloc W _ none) (fun r e=>by cases e)
  have Hi:KeepsWalks W y:=by rw [<- X];exact KeepsWalks.alloc _ _
  have E:Bx2 y W.heap.size (.string s) (.int .i64 p):=by rw [<- X];exact Bx2.made _ _ _ _
  have H0:l<W.heap.size:=(Array.getElem?_eq_some_iff.1 h.L).1;obtain⟨v,hv,C,_⟩:=z.box;have hl:l<y.heap.size:=(Array.getElem?_eq_some_iff.1 z.L).1;have Hm:=run_beginRound (P:=Tryz.prog) z.L rfl;obtain⟨q,i⟩:∃q,y.putObj l (.loop {Qbq fn sv Bs D .ready with state:=.busy})=q:=⟨_,rfl⟩;rw [i] at Hm;have U:y.grownBy q (some l):=by rw [<- i];exact grownBy_putObj_a _ _ _
  have Ho:KeepsWalks W q:=Hi.trans (by rw [<- i];exact KeepsWalks.putObj _ z.L rfl);have Z:q.heap[Bs]? =some (.cells #[v] 83 (0,0)):=by rw [<- i];exact(World.putObj_heap_other hBl).trans hv
  have I:q.heap[D]? =some (.deferred (some [])):=by rw [<- i];exact(World.putObj_heap_other hDl).trans z.K
  have J:q.heap[l]? =some (.loop {Qbq fn sv Bs D .ready with state:=.busy}):=by rw [<- i];exact World.putObj_heap_same hl
  have F:q.ownsRow w0.heap.size 88 2 v ss.length (kRow ss):=C.kept U (ownsRow_ne_a C z.L (fun cur e=>by cases e));have Q:RowKit.Below w0.heap.size w0 q:=z.below.grown U z.below.size (fun k e=>by cases e;exact h0l);have H:q.heap[W.heap.size]? =y.heap[W.heap.size]? :=U.block _ E.lt (fun e=>by injection e with e;omega);have q0:q.cell? ⟨W.heap.size,0,none⟩=some (.string s):=(World.cell?_of_block (a:=⟨W.heap.size,0,none⟩) H).trans E.c0;have q1:q.cell? ⟨W.heap.size,1,none⟩=some (.int .i64 p):=(World.cell?_of_block (a:=⟨W.heap.size,1,none⟩) H).trans E.c1;obtain⟨Hw,Hy⟩:=cell_of_box_a Z;have Hb:Bs<q.heap.size:=(Array.getElem?_eq_some_iff.1 Z).1;have Hq:l<q.heap.size:=(Array.getElem?_eq_some_iff.1 J).1;have Hc:D<q.heap.size:=(Array.getElem?_eq_some_iff.1 I).1;have ne_of:∀{j:Nat} {o:Obj},q.heap[j]? =some o ->(∀cur,o≠.cells cur 88 (0,0)) ->some j≠v.ownBlock:=fun hj hno=>by
    rcases ownsRow_ne_a F hj hno with e|e
    · rw [e];simp
    · exact fun e'=>e e'.symm
  have G:=hid F;have HZ:=hid Q.size;clear i C F E H U Hi;unfold apA;dsimp only [Qbs];gi_wp2_with gi_round_op_a
  unfold apB;gi_wp2_with (first
    | (gi_at_builtin;refine wpListIn_append_own _ rfl _ _ 83 rfl w0.heap.size 88 i0 (.agg #[.string ByteArray.empty,.int .i64 0]) 2 24 Tryz.underlying83 hi Ht Hu Hv rfl (by decide) _ _ _ rfl (G.alloc _) ⟨q.heap.size,0,none⟩ 1 1 [.string s,.int .i64 p] rfl rfl (cell_two_new _ _ _ _) (by simp [Value.oneCell']) (by omega) (by omega) (by have:=HZ.out;simp;omega) ?_;intro v' g B Hh Hk
       have R:g.heap[Bs]? =some (.cells #[v] 83 (0,0)):=(Hh.block Bs (by simp;omega) (ne_of Z (fun cur e=>Hj (Obj.cells.inj e).2.1))).trans ((Below.heap_alloc _ _ Bs Hb).trans Z)
       obtain⟨Hx,Hz⟩:=cell_of_box_a R
       obtain⟨b,t,M,rfl,Hd,Hn,H1,H2,H3,H4⟩:∃b t M,v'=.slice (some ⟨b,0,none⟩) (ss.length+1) t/\ w0.heap.size<=b/\ g.heap[b]? =some (.cells M 88 (0,0))/\ ss.length+1<=t/\ t<=maxLen/\ M.size=t*2/\ M.toList.take ((ss.length+1)*2)=kRow ss++[.string s,.int .i64 p]:=by
         rcases B.2 with ⟨_,h0⟩|h'
         · exact absurd h0 (by omega)
         · exact h'
       have S:=hid B
       clear B
       try go_frame)
    | gi_round_op_a)
  have V:(q.alloc (.cells #[.string s,.int .i64 p] 88)).grownBy g v.ownBlock:=Hh;have He:g.heap[l]? =some (.loop {Qbq fn sv Bs D .ready with state:=.busy}):=(V.block l (by simp;omega) (ne_of J (fun cur e=>by cases e))).trans ((Below.heap_alloc _ _ l Hq).trans J);have T:g.heap[D]? =some (.deferred (some [])):=(V.block D (by simp;omega) (ne_of I (fun cur e=>by cases e))).trans ((Below.heap_alloc _ _ D Hc).trans I);obtain⟨u,A⟩:∃u,g.setCell ⟨Bs,0,none⟩ (.slice (some ⟨b,0,none⟩) (ss.length+1) t)=u:=⟨_,rfl⟩;rw [A];have Y:g.grownBy u (some Bs):=by rw [<- A];exact grownBy_setCell0_a _ _ _
  have Hs:u.heap[Bs]? =some (.cells #[.slice (some ⟨b,0,none⟩) (ss.length+1) t] 83 (0,0)):=by rw [<- A];exact heap_setCell_box_a _ R
  have O:u.heap[l]? =some (.loop {Qbq fn sv Bs D .ready with state:=.busy}):=(Y.block l (Array.getElem?_eq_some_iff.1 He).1 (fun e=>hBl (by cases e;rfl))).trans He;have Hl:u.heap[D]? =some (.deferred (some [])):=(Y.block D (Array.getElem?_eq_some_iff.1 T).1 (fun e=>hDB (by cases e;rfl))).trans T;have Ha:=S.kept Y (ownsRow_ne_a S.out R (fun cur e=>Hj (Obj.cells.inj e).2.1));have Hr:l<u.heap.size:=(Array.getElem?_eq_some_iff.1 O).1;have Hf:RowKit.Below w0.heap.size w0 g:=(Q.alloc Q.size _).grown V (by have:=Q.size;simp;omega) (fun k e=>(G.lt k e).1);have Hg:RowKit.Below w0.heap.size w0 u:=Hf.grown Y Hf.size (fun k e=>by cases e;exact h0B);have Hp:KeepsWalks W u:=((Ho.trans (KeepsWalks.alloc _ _)).trans (KeepsWalks.of_grownBy V (ownsRow_not_walk_a (G.alloc _)))).trans (by rw [<- A];exact KeepsWalks.setCell _ _ _);clear A;refine⟨_,_,run_endRound none O,rfl,⟨⟨_,(World.putObj_heap_other hBl).trans Hs,?_,by simp⟩,World.putObj_heap_same Hr,(World.putObj_heap_other hDl).trans Hl,Hg.grown (grownBy_putObj_a _ _ _) Hg.size (fun k e=>by cases e;exact h0l)⟩,Hp.trans (KeepsWalks.putObj _ O rfl)⟩;have:=Ha.kept (grownBy_putObj_a u l (.loop {{Qbq fn sv Bs D .ready with state:=.busy} with state:=if (none:Option Code).isNone then .ready else .done,pending:=none})) (ownsRow_ne_a Ha O (fun cur e=>by cases e));rw [QdI];simpa [kCells] using this
theorem QcM (n:Nat)(hn:2<=n)(g:Nat)(lb:Array Value)(eg:∀args w,(callFunc g args).run Tryz.prog w=.ok (.enter g args) w)
  (S:List Ky ->Prop) (N:Nat) (hN:N<=maxLen) (hNb:N*24<=140737488355328) (w:World) (hseq:SeqGives Fence.wide (n - 1) Tryz.prog g lb Qbs S N w):
  CallsIn Fence.wide n Tryz.prog 116 #[.slice none 0 0,.func (.func g) #[] lb] w fun e w'=>∃(v:Value) (y:List Ky),e=.returned v/\ S y/\ w'.ownsRow w.heap.size 88 2 v y.length (kRow y)/\ (v=.slice none 0 0↔y=[])/\ RowKit.Below w.heap.size w w':=by
 have F:83≠88:=by decide
 refine callsIn_of_wp_marks Tryz.func116 rfl trivial ?_ rfl;simp only [Tryz.ntmps116,List.size_toArray,List.length_cons,List.length_nil,Nat.reduceAdd,Nat.reduceSub,Array.replicate_succ,Array.replicate_zero,List.push_toArray,List.append_toArray,List.nil_append,List.cons_append];gi_wp2
 refine wpIn_rangeFunc ?_;intro r D;obtain⟨j,t⟩:∃j,w.alloc (.cells #[.slice none 0 0] 83)=j:=⟨_,rfl⟩;have G:j.heap.size=w.heap.size+1:=by rw [<- t];simp
 have I:j.heap[w.heap.size]? =some (.cells #[.slice none 0 0] 83 (0,0)):=by rw [<- t];exact World.alloc_heap_new w _
 have o:RowKit.Below w.heap.size w j:=by rw [<- t];exact(RowKit.Below.refl _ w).alloc zL _
 rw [t];obtain⟨m,z⟩:∃m,(j.alloc (.deferred (some []))).alloc (.loop (Qbq r (.func (.func g) #[] lb) w.heap.size j.heap.size .ready))=m:=⟨_,rfl⟩;have Z:∀k,k<j.heap.size ->m.heap[k]? =j.heap[k]? :=fun k hk=>by
  rw [<- z];exact(Below.heap_alloc _ _ k (by simp;omega)).trans (Below.heap_alloc _ _ k hk)
 have i:RowKit.Below w.heap.size w m:=by rw [<- z];exact(o.alloc o.size _).alloc (by have:=o.size;simp;omega) _
 have U:QhJ w r (.func (.func g) #[] lb) w.heap.size (j.heap.size+1) j.heap.size [] m:=
  ⟨⟨_,(Z w.heap.size (by omega)).trans I,⟨rfl,.inl ⟨rfl,rfl⟩⟩,by simp⟩,
   by rw [<- z];have:=World.alloc_heap_new (j.alloc (.deferred (some []))) (.loop (Qbq r (.func (.func g) #[] lb) w.heap.size j.heap.size .ready));rwa [World.size_alloc] at this,
   by rw [<- z];exact(Below.heap_alloc _ _ _ (by simp)).trans (World.alloc_heap_new j _),i⟩
 refine⟨j.heap.size+1,[{target:=.collected j.heap.size,args:=#[]}],m,{target:=.fn (.func g) lb,args:=#[.func (.yield (j.heap.size+1)) #[] #[]]},m,g,
  #[.func (.yield (j.heap.size+1)) #[] #[]]++lb,m,?_,?_,?_,?_,fun _=>by omega,?_⟩
 ·rw [<- z];exact run_enterLoop_outer _ _ _ _ _
 ·simp [resolve,go_sem]
 ·intro f' B;trivial
 ·simp [invoke,go_sem,eg]
 ·refine(hseq (j.heap.size+1) (QhJ w r (.func (.func g) #[] lb) w.heap.size (j.heap.size+1) j.heap.size) m i (QbW _ _ _ _ _ _ _ i.size)
   (fun pre x W hJ hl=>QeF (n - 1 - 1) w r _ w.heap.size (j.heap.size+1) j.heap.size (by omega) (by omega) (by omega) zL (by omega) N hN hNb pre x W hJ hl) U).mono ?_
  rintro e s ⟨⟨R,rfl⟩,y,V,u⟩;obtain⟨v,H,b,Y⟩:=u.box;have M:=run_endLoop (P:=Tryz.prog) u.L (by simp [Qbq]);obtain⟨q,h⟩:∃q,s.putObj (j.heap.size+1) (.loop {Qbq r (.func (.func g) #[] lb) w.heap.size j.heap.size .ready with state:=.exhausted})=q:=⟨_,rfl⟩;rw [h] at M;have O:s.grownBy q (some (j.heap.size+1)):=by rw [<- h];exact grownBy_putObj_a _ _ _
  have J:q.heap[w.heap.size]? =some (.cells #[v] 83 (0,0)):=by rw [<- h];exact(World.putObj_heap_other (by omega)).trans H
  have A:q.heap[j.heap.size]? =some (.deferred (some [])):=by rw [<- h];exact(World.putObj_heap_other (by omega)).trans u.K
  have Q:=b.kept O (ownsRow_ne_a b u.L (fun cur e=>by cases e));have E:RowKit.Below w.heap.size w q:=u.below.grown O u.below.size (fun k e=>by cases e;omega);obtain⟨X,C⟩:=cell_of_box_a J;have p:=hid Q;clear h b Q;refine⟨none,q,M,?_⟩;gi_wp2
  rw [<- G];refine⟨by simp,.inl ⟨_,_,rfl,run_takeDeferred A,?_⟩⟩;exact⟨_,results_tmp rfl _ _ _,v,y,rfl,V,p.kept (grownBy_putObj_a _ _ _) (ownsRow_ne_a p.out A (fun cur e=>by cases e)),Y,E.grown (grownBy_putObj_a _ _ _) E.size (fun k e=>by cases e;omega)⟩
theorem QeM (g:Nat)(lb:Array Value)(eg:∀args w,(callFunc g args).run Tryz.prog w=.ok (.enter g args) w)
  (S:List Ky ->Prop) (N:Nat) (hN:N<=maxLen) (hNb:N*24<=140737488355328) (w:World) (hseq:SeqGives Fence.wide 4 Tryz.prog g lb Qbs S N w):
  Calls Tryz.prog 92 #[.func (.func g) #[] lb] w fun e w'=>∃(v:Value) (j:List Ky),e=.returned v/\ S j/\ w'.ownsRow w.heap.size 88 2 v j.length (kRow j)/\ (v=.slice none 0 0↔j=[])/\ RowKit.Below w.heap.size w w':=by
 have m:=hid ((callsIn_wide (n:=5)).1 (QcM 5 (by omega) g lb eg S N hN hNb w hseq));go_enter Tryz.func92,Tryz.ntmps92;go_wp2_with fail;refine m.mono ?_;rintro e w' ⟨v,j,rfl,q,y,u,r⟩;have k:=hid (And.intro q (And.intro y (And.intro u r)));clear q y u r m;go_wp2_with fail;go_ret;exact⟨v,j,rfl,k.1,k.2.1,k.2.2.1,k.2.2.2⟩
theorem QcS (Bm b nn:Nat)(f:Ky ->Option (Nat×Nat))(D0:DataW Value)(w:World)(hBm:Bm<w.heap.size)(hm:w.cell? ⟨Bm,0,none⟩=some (.map (some b)))(hF:FM w 88 Qbs Qdg b nn f D0):
  SeqGives Fence.wide 4 Tryz.prog 94 #[.pointer (some ⟨Bm,0,none⟩)] Qbs (Qd0 f) (Maps.size D0) w:=fun l J W hW hJ hY h0=>by
 have j:FM W 88 Qbs Qdg b nn f D0:=⟨QbI hF.own (hW.block b hF.own.lt),hF.at',hF.cov,hF.ok⟩;exact Qg2 4 l Bm b nn f D0 J (by omega) hY W hJ ((hW.cell (p:=⟨Bm,0,none⟩) hBm).trans hm) j h0
theorem QbZ (x y:Ky)(w:World):Calls Tryz.prog 69 #[.agg #[.string x.1,.int .i64 x.2],.agg #[.string y.1,.int .i64 y.2]] w fun e w'=>e=.returned (.int .i64 (Qb7 x y))/\ Bw w w':=by
 obtain⟨s,k⟩:=x;obtain⟨q,m⟩:=y;dsimp only;obtain⟨W,u⟩:∃W,(w.alloc (.cells #[.string s,.int .i64 k] 88)).alloc (.cells #[.string q,.int .i64 m] 88)=W:=⟨_,rfl⟩;have b:Bw w W:=by rw [<- u];exact⟨Qak _ _ _,Nat.le_refl _⟩
 have t:Bx2 W w.heap.size (.string s) (.int .i64 k):=by rw [<- u];exact(Bx2.made w _ _ _).allocs _
 have o:Bx2 W (w.heap.size+1) (.string q) (.int .i64 m):=by rw [<- u];simpa using Bx2.made (w.alloc (.cells #[.string s,.int .i64 k] 88)) (.string q) (.int .i64 m) 88
 have v:=hid b;have h:=hid t;have g:=hid o;clear b t o;go_enter Tryz.func69,Tryz.ntmps69;go_wp2_with fail;try rw [u]
 clear u;have z:Hid (∀w',Bw W w' ->(Bw W w'/\ w'.cell? ⟨w.heap.size,0,none⟩=some (.string s)/\ w'.cell? ⟨w.heap.size,1,none⟩=some (.int .i64 k)/\ w'.cell? ⟨w.heap.size+1,0,none⟩=some (.string q)/\ w'.cell? ⟨w.heap.size+1,1,none⟩=some (.int .i64 m))):=hid (fun w' r=>by
  have x0:=h.below r.1 h.lt;have p:=g.below r.1 g.lt;exact⟨r,x0.c0,x0.c1,p.c0,p.c1⟩)
 refine zR (S:=fun w'=>Bw W w'/\ w'.cell? ⟨w.heap.size,0,none⟩=some (.string s)/\ w'.cell? ⟨w.heap.size,1,none⟩=some (.int .i64 k)/\ w'.cell? ⟨w.heap.size+1,0,none⟩=some (.string q)/\ w'.cell? ⟨w.heap.size+1,1,none⟩=some (.int .i64 m)) (z _ ⟨zI.drew,Nat.le_succ _⟩) (fun qh=> ?_);refine tZ 0 5 ?_;refine tZ 1 6 ?_;refine tZ 2 7 ?_;refine tZ 3 8 ?_;refine tZ 5 10 ?_;refine tZ 6 11 ?_;refine tZ 7 12 ?_;refine tZ 8 13 ?_;refine cZ 4 ?_;intro K j;go_simp;refine(Qi3 s q _).mono ?_;rintro e w1 ⟨rfl,rfl⟩;refine j.out _ _ qh (fun qh=> ?_);clear j K;try simp only [zP]
 refine cZ 9 ?_;intro K j;go_simp;refine(QbY k m _).mono ?_;rintro e E ⟨rfl,rfl⟩;refine j.out _ _ qh (fun qh=> ?_);clear j K;try simp only [zP]
 refine cZ 10 ?_;intro K j;go_simp;have r:Bw W (W.drew.alloc (.cells #[.int .i64 (QbE s q),.int .i64 (QaT k m)] 3)):=⟨qh.1.1.alloc qh.1.1.size _,qh.1.2⟩;refine j.out _ _ (z _ r) (fun qh=> ?_);clear j K;try simp only [zP]
 refine cZ 11 ?_;intro K j;go_simp;refine(Qi1 _ 2 2 (fun i=>if i=0 then QbE s q else QaT k m) _ (by omega) (fun i hi=> ?_)).mono ?_
 ·match i,hi with
  | 0,_=>simp
  | 1,_=>simp
 rintro e M ⟨rfl,rfl⟩;refine j.out _ _ qh (fun qh=> ?_);clear j K;try simp only [zP]
 refine tZ 12 4 ?_;refine zD ?_;have A:Hid (Bw w (W.drew.alloc (.cells #[.int .i64 (QbE s q),.int .i64 (QaT k m)] 3))):=hid ⟨v.1.trans (qh.1.1.mono v.1.size),Nat.le_trans v.2 qh.1.2⟩;clear qh r;go_wp2_with fail;go_ret;exact⟨QbB nz2,A.out⟩
instance:Inhabited Ky:=⟨(ByteArray.empty,0)⟩
theorem Qb9 (x:Ky):(kCells x).length=2:=rfl
theorem Qbm (ss:List Ky):(kRow ss).length=ss.length*2:=by
 induction ss with
 | nil=>rfl
 | cons x r ih=>simp only [kRow,List.flatMap_cons,List.length_append,List.length_cons] at*;rw [ih,Qb9];omega
theorem kRow_get:∀(ss:List Ky) (t:Nat),t<ss.length*2 ->(kRow ss)[t]? =some ((kCells ss.toArray[t/2]!)[t%2]!)
 | [],t,h=>by simp at h
 | x::r,t,h=>by
  rcases Nat.lt_or_ge t 2 with q|q
  ·have:t=0 \/t=1:=by omega
   rcases this with rfl|rfl<;>simp [kRow,kCells]
  ·obtain⟨u,rfl⟩:∃u,t=u+2:=⟨t - 2,by omega⟩;have y:=kRow_get r u (by simp at h;omega);have j:(u+2)/2=u/2+1:=by omega
   have k:(u+2)%2=u%2:=by omega
   rw [j,k];have v:u/2<r.length:=by simp at h;omega
   have m:(x::r).toArray[u/2+1]! =r.toArray[u/2]! :=by
    rw [getElem!_pos _ _ (by simp;omega),getElem!_pos _ _ (by simpa using v)];simp
   rw [m,<- y];simp [kRow,kCells]
theorem Qd8 (ss:List Ky):(flatK kCells 2 ss.toArray).toList=kRow ss:=by
 apply List.ext_getElem?;intro t;by_cases h:t<ss.length*2
 ·rw [kRow_get ss t h];have j:t<(flatK kCells 2 ss.toArray).size:=by simpa using h
  have:=get_flatK kCells 2 ss.toArray t (by simpa using h);rw [getElem!_pos _ t j] at this;rw [Array.getElem?_toList,Array.getElem?_eq_getElem j,this]
 ·rw [List.getElem?_eq_none (by simp;omega),List.getElem?_eq_none (by rw [Qbm];omega)]
theorem Qcb {w:World}{g n:Nat}{os:Array Obj}{cur:Array Value}{e:TypeId}{fr:Nat×Nat}(d:Array Value)(hb:w.heap[g]? =some (.cells cur e fr)):
  (grow (putRow id (Sort.ahead w n) g 0 d) os).heap[g]? =some (.cells (putCells id 0 d cur) e fr):=by
 have j:g<w.heap.size:=(Array.getElem?_eq_some_iff.1 hb).1;rw [heap_grow_old _ _ (by simpa [putRow,mapBlock,Sort.ahead] using j)];simp [putRow,mapBlock,Sort.ahead,Array.getElem?_modify,hb,onCells]
theorem Qbr {w:World}{g n:Nat}{os:Array Obj}(d:Array Value):w.grownBy (grow (putRow id (Sort.ahead w n) g 0 d) os) (some g):=by
 refine⟨rfl,rfl,rfl,by simp [grow,putRow,mapBlock,Sort.ahead],fun k hk hne=> ?_⟩;rw [heap_grow_old _ _ (by simpa [putRow,mapBlock,Sort.ahead] using hk)];have:g≠k:=fun e=>hne (by rw [e]);simp [putRow,mapBlock,Sort.ahead,Array.getElem?_modify,this]
theorem Qed (cur:Array Value)(ts:List Value)(h:ts.length<=cur.size):(putCells id 0 ts.toArray cur).toList.take ts.length=ts:=by
 apply List.ext_getElem?;intro j;by_cases k:j<ts.length
 ·rw [List.getElem?_take_of_lt k,Array.getElem?_toList];simp [putCells,k,show j<cur.size by omega]
 ·rw [List.getElem?_take_eq_none (by omega),List.getElem?_eq_none (by omega)]
theorem Qgn:∀args w,(callFunc 69 args).run Tryz.prog w=.ok (.enter 69 args) w:=enters_of Tryz.func69 (by kernel_rfl) rfl
theorem QeJ (blk off size:Nat)(w:World):CmpLays Tryz.prog 69 #[] kCells 2 Qb7 blk off size w:=fun m os dk _ x y=>
 (QbZ x y _).mono fun e w' ⟨he,hb⟩=>⟨he,hb.grown⟩
theorem QdY (B blk cap:Nat)(ss:List Ky)(w:World)(ho:w.ownsRow B 88 2 (.slice (some ⟨blk,0,none⟩) ss.length cap) ss.length (kRow ss))(hsz:ss.length<=1048576):
  Calls Tryz.prog 93 #[.slice (some ⟨blk,0,none⟩) ss.length cap,.func (.func 69) #[] #[]] w fun e w'=>e=.returned (.tuple #[])/\∃ts:List Ky,ts.Perm ss/\ SortedIn (ltOf Qb7) 0 ts.length ts.toArray/\ w'.ownsRow B 88 2 (.slice (some ⟨blk,0,none⟩) ss.length cap) ss.length (kRow ts)/\ w.grownBy w' (some blk):=by
 rcases ho.2 with ⟨o,_⟩|⟨Y,V,z,q,E,m,i,b,p,s⟩
 ·cases o
 cases q;have M:blk<w.heap.size:=(Array.getElem?_eq_some_iff.1 m).1;have A:HoldsK kCells 2 w blk 0 ss.toArray:=by
  intro t U;have y:t<ss.length*2:=by simpa using U
  refine⟨?_,by simp [World.frozen?,m]⟩;have k:(z.toList.take (ss.length*2))[t]? =(kRow ss)[t]? :=by rw [s]
  rw [List.getElem?_take_of_lt y,kRow_get ss t y] at k;have r:=get_flatK kCells 2 ss.toArray t (by simpa using y);rw [r];simp only [World.cell?,m,Nat.zero_add,Option.isSome_none,Bool.false_eq_true,if_false];rw [<- Array.getElem?_toList,k];rfl
 have u:=AnyQ.slices_SortFunc Tryz.sortK 2 Tryz.isAgg88 Tryz.sizeOf88 kCells Qb9 (fun x v q=>by simp [kCells] at q;rcases q with rfl|rfl<;>rfl) Qb7 QaF.key.swo 69 #[] blk 0 cap ss.toArray w Qgn (QeJ blk 0 _ w) A M (by simp;omega);change Calls Tryz.prog 93 _ _ _ at u;simp only [List.size_toArray] at u;refine u.mono ?_;rintro e w' ⟨rfl,d',n,Z,h,Q,rfl⟩;have j:d'.size=ss.length:=by simpa using h.1
 have O:d'.toList.Perm ss:=by
  have:=h.2.2;have k:d'.extract 0 ss.length=d':=by rw [<- j];simp
  have r:ss.toArray.extract 0 ss.length=ss.toArray:=by simp
  rw [k,r] at this;simpa using this
 refine⟨rfl,d'.toList,O,by simpa [j] using Q,⟨by rw [Qbm];simp [j],.inr ⟨blk,cap,_,rfl,E,Qcb _ m,i,b,by simp [putCells,p],?_⟩⟩,Qbr _⟩;have g:flatK kCells 2 d'=(kRow d'.toList).toArray:=by
  have:=Qd8 d'.toList;simp only [Array.toArray_toList] at this;rw [<- this]
 rw [g];have:=Qed z (kRow d'.toList) (by rw [Qbm];simp [j];omega);rw [Qbm] at this;simpa [j] using this
theorem QcU {ts:List Ky}(h:ts.Nodup)(hs:SortedIn (ltOf Qb7) 0 ts.length ts.toArray):ts.Pairwise (fun x y=>Qb7 x y<0):=by
 have:=QaF.key.rises (d:=ts.toArray) (by simpa using hs) (by simpa using h);simpa using this
theorem Qc0 (g:Nat)(lb:Array Value)(eg:∀args w,(callFunc g args).run Tryz.prog w=.ok (.enter g args) w)(N:Nat)(f:Ky ->Option (Nat×Nat))(w:World)(hN:N<=1048576)(hseq:SeqGives Fence.wide 4 Tryz.prog g lb Qbs (Qd0 f) N w):
  Calls Tryz.prog 67 #[.func (.func g) #[] lb,.func (.func 69) #[] #[]] w fun e w'=>∃(v:Value) (j:List Ky),e=.returned v/\ j.Pairwise (fun x y=>Qb7 x y<0)/\ (∀x,x∈j↔f x≠none)/\ j.length<=1048576/\ w'.ownsRow w.heap.size 88 2 v j.length (kRow j)/\ RowKit.Below w.heap.size w w':=by
 have o:=hid (QeM g lb eg _ N (by unfold maxLen;omega) (by omega) w (SeqGives.bounded hseq));go_enter Tryz.func67,Tryz.ntmps67;go_wp2_with fail;refine o.mono ?_;rintro e w1 ⟨v,b,rfl,⟨h,B⟩,q,H,t⟩;rcases q.2 with ⟨rfl,J⟩|⟨Z,cap,L,rfl,G,X,r1,r2,C,D⟩
 ·have I:b=[]:=List.eq_nil_of_length_eq_zero J;subst I;have r:=hid t;have u:=hid h;have U:=hid q;have i:=AnyF.slices_SortFunc_none Tryz.sortK none 0 (.func (.func 69) #[] #[]) w1;change Calls Tryz.prog 93 _ _ _ at i;have m:=hid i;clear t h q o i;go_wp2_with fail;refine m.mono ?_;rintro e K ⟨rfl,rfl⟩;clear m;go_wp2_with fail;go_ret;exact⟨_,[],rfl,List.Pairwise.nil,fun x=>u.2 x,by simp,U.out,r.out⟩
 ·have m:=hid (QdY w.heap.size Z cap b w1 q (by omega));have r:=hid t;have u:=hid h;have O:Hid (b.length<=1048576):=hid (by omega);have Y:=hid G;clear t h q o H;go_wp2_with fail;refine m.mono ?_;rintro e K ⟨rfl,j,A,E,s,p⟩;have Q:=hid s;have M:=hid (r.grown p r.size (fun k e=>by injection e with e;have:=Y.out;omega));have z:=hid A;have V:=hid E;clear s p A E m;go_wp2_with fail;go_ret;refine⟨_,j,rfl,QcU (z.nodup_iff.2 u.1) V.out,fun x=>by rw [z.mem_iff];exact u.2 x,by rw [z.length_eq];exact O.out,?_,M.out⟩;rw [z.length_eq];exact Q.out
theorem Qfa (n l Bm:Nat)(J:List Ky ->World ->Prop)(W:World)(hJ:AbidesFrom W.heap.size J)(hm:W.cell? ⟨Bm,0,none⟩=some (.map none))(h0:J [] W):
  CallsIn Fence.wide n Tryz.prog 94 #[.func (.yield l) #[] #[],.pointer (some ⟨Bm,0,none⟩)] W fun e W'=>(∃v,e=.returned v)/\∃ss:List Ky,Qd0 (fun _=>(none:Option (Nat×Nat))) ss/\ J ss W':=by
 have k:=run_range_nilMap (P:=Tryz.prog) W 42 88 45 Tryz.underlying42;have j:∀ty,(Instr.next (.pointer (some ⟨W.heap.size,0,none⟩)) false ty).run Tryz.prog (W.alloc (.mapIter none 0 #[] 0))=_:=fun ty=>run_next_nilMap _ ty 0 0 #[];refine callsIn_of_wp Tryz.func94 rfl trivial ?_ rfl;simp only [Tryz.ntmps94,List.size_toArray,List.length_cons,List.length_nil,Nat.reduceAdd,Nat.reduceSub,Array.replicate_succ,Array.replicate_zero,List.push_toArray,List.append_toArray,List.nil_append,List.cons_append];gi_wp2
 refine wpIn_loop_rounds 1 ?_;rw [roundsIn_succ];gi_wp2
 go_end0;exact⟨⟨_,rfl⟩,[],⟨List.nodup_nil,fun x=>by simp⟩,hJ [] W _ none h0 (World.grownBy_alloc W _ none) (fun r e=>by cases e)⟩
theorem Qg1 (mb:Option Nat)(w:World):Calls Tryz.prog 68 #[.map mb] w fun e w'=>e=.returned (.func (.func 94) #[] #[.pointer (some ⟨w.heap.size,0,none⟩)])/\ w'=w.alloc (.cells #[.map mb] 42):=by
 go_enter Tryz.func68,Tryz.ntmps68;go_wp2_with fail;go_ret;exact⟨rfl,rfl⟩
def QiZ (N:List Ky ->Option (Nat×Nat))(p:List Ky)(y:Ky):Option (Nat×Nat):=N (p++[y])
theorem Qc1 (B c:Nat)(N:List Ky ->Option (Nat×Nat))(M:List Ky ->Dt ->Option ByteArray)(p:List Ky)(w:World)(hT:Tre w B N M c)(hc:c<=1048576):
  Calls Tryz.prog 34 #[.agg #[.map (mF (N p)),.map (mS (N p))]] w fun e w'=>∃(v:Value) (j:List Ky),e=.returned v/\ j.Pairwise (fun x y=>Qb7 x y<0)/\ (∀x,x∈j↔QiZ N p x≠none)/\ j.length<=1048576/\ w'.ownsRow w.heap.size 88 2 v j.length (kRow j)/\ RowKit.Below w.heap.size w w':=by
 obtain⟨m,t⟩:∃u,mF (N p)=u:=⟨_,rfl⟩;obtain⟨L,K⟩:∃u,mS (N p)=u:=⟨_,rfl⟩;rw [t,K];have A:Hid (∀w1,RowKit.Below w.heap.size w w1 ->∀Bm,Bm<w1.heap.size ->w1.cell? ⟨Bm,0,none⟩=some (.map m) ->∃n,n<=1048576/\ SeqGives Fence.wide 4 Tryz.prog 94 #[.pointer (some ⟨Bm,0,none⟩)] Qbs (Qd0 (QiZ N p)) n w1):=hid (fun w1 h Bm hBm k=>by
  cases e:N p with
  | some x=>
   obtain⟨D,V⟩:=(hT.below h).kids p x e;have:m=some x.1:=by rw [<- t,e];rfl
   rw [this] at k;exact⟨Maps.size D,Nat.le_trans V.own.size_le hc,QcS Bm x.1 c _ D w1 hBm k V⟩
  | none=>
   have:m=none:=by rw [<- t,e];rfl
   rw [this] at k;refine⟨0,by omega,fun l J W q hJ hY h0=> ?_⟩;have R:QiZ N p=fun _=>none:=funext fun y=>hT.up p y e;rw [R];exact Qfa 4 l Bm J W hJ ((q.cell (p:=⟨Bm,0,none⟩) hBm).trans k) h0)
 obtain⟨W,q⟩:∃W,w.alloc (.cells #[.map m,.map L] 45)=W:=⟨_,rfl⟩;have Q:RowKit.Below w.heap.size w W:=by rw [<- q];exact zO _ _
 have O:Bx2 W w.heap.size (.map m) (.map L):=by rw [<- q];exact Bx2.made _ _ _ _
 have k0:=O.c0;have s:=hid Q;clear hT Q O t K;go_enter Tryz.func34,Tryz.ntmps34;go_wp2_with fail;try rw [q]
 clear q;refine(Qg1 m W).mono ?_;rintro e w1 ⟨rfl,o⟩;have h:RowKit.Below W.heap.size W w1:=by rw [o];exact zO _ _
 have U:w1.cell? ⟨W.heap.size,0,none⟩=some (.map m):=by rw [o];simp
 have X:W.heap.size<w1.heap.size:=by rw [o];simp
 have z:=hid (s.trans (h.mono s.size));obtain⟨n,T,I⟩:=A w1 z.out W.heap.size X U;have E:=hid (Qc0 _ _ (enters_of Tryz.func94 (by kernel_rfl) rfl) n (QiZ N p) w1 T I);clear I o h U X k0 A;go_wp2_with fail;refine E.mono ?_;rintro e w2 ⟨v,j,rfl,H,k,Z,G,Y⟩;have i:=hid (And.intro H (And.intro k Z));have C:=hid (z.trans (Y.mono z.size));have F:Hid (w2.ownsRow w.heap.size 88 2 v j.length (kRow j)):=hid (by
  obtain⟨q1,b⟩:=G;refine⟨q1,?_⟩;rcases b with b|⟨g,cap,P,e,S,r⟩
  ·exact .inl b
  ·exact .inr ⟨g,cap,P,e,Nat.le_trans z.size S,r⟩)
 clear H k Z G Y E;go_wp2_with fail;go_ret;exact⟨v,j,rfl,i.1,i.2.1,i.2.2,F.out,C.out⟩
end Go.Proofs.YtdeolligikjieaaGreatDoor
namespace Go.Proofs.YtdeolligikjieaaGreatDoor.Ds
open Go.ChangeShapes Go.WideShapes Go.ChangeAt Go.RowKit Go.Maps Go.Sort Go.Lib Go.Shelf
theorem Qg2 (n l Bm b nn:Nat)(f:Dt ->Option ByteArray)(D0:DataW Value)(J:List Dt ->World ->Prop)(hn:1<=n)
  (hY:∀pre x W,J pre W ->pre.length<Maps.size D0 ->YieldAt Fence.wide (n - 1) Tryz.prog l #[dtV x] W fun e W'=>e=.returned (.bool true)/\ J (pre++[x]) W'/\ KeepsWalks W W')
  (W:World) (hJ:AbidesFrom W.heap.size J) (hm:W.cell? ⟨Bm,0,none⟩=some (.map (some b))) (hF:FM W 67 dtV Qey b nn f D0) (h0:J [] W):
  CallsIn Fence.wide n Tryz.prog 122 #[.func (.yield l) #[] #[],.pointer (some ⟨Bm,0,none⟩)] W fun e W'=>(∃v,e=.returned v)/\∃j,Qd0 f j/\ J j W':=by
 have P:=hF.own;have z:=hid hF;have h:=hid hJ;have V:=hid hY;clear hF hJ hY;refine callsIn_of_wp Tryz.func122 rfl trivial ?_ rfl;simp only [Tryz.ntmps122,List.size_toArray,List.length_cons,List.length_nil,Nat.reduceAdd,Nat.reduceSub,Array.replicate_succ,Array.replicate_zero,List.push_toArray,List.append_toArray,List.nil_append,List.cons_append];gi_wp2_with (first
  | (gi_at_range;refine wpListIn_range_own _ rfl _ 43 rfl 67 82 QaD Tryz.underlying43 _ b nn _ rfl P ?_;intro w0 R L He)
  | gi_in)
 try go_frame
 gi_loopw [3] (fun _ wr=>∃(i:Lit ->Bool) (t:Nat) (j:List Dt),wr.ranges Tryz.prog 67 Qit b W.heap.size nn D0 i t/\ j.length+t<=Maps.size D0/\ Qdz 67 dtV f i j/\ J j wr)
  (fun _ wr=>wr.rangeLeft b W.heap.size)
 case atStart=>exact⟨_,_,[],R,by simp,Qdz.start z.out,h.out [] W w0 none h0 L (fun r e=>by cases e)⟩
 case round=>
  obtain⟨i,t,j,o,O,A,E⟩:=hrel;have p:=hid A;have s:=hid O;clear A O;gi_wp2_with (first
   | (gi_at_next;refine wpListIn_next_ranges _ rfl _ rfl 67 QaD Qit dtV id (fun key kl hk=>QiV hk) (fun v _ _=>⟨v,rfl⟩) b W.heap.size nn _ _ _ rfl o ?_ ?_)
   | gi_in)
  ·intro Hd C;gi_wp2
   go_end0;exact⟨⟨_,rfl⟩,j,p.done z.out C,E⟩
  ·intro u q c kl yd yp k Y B D hv I S F N T K;have Z:J j k:=h j wr k (some W.heap.size) E N (fun r e=>by cases e;exact⟨Nat.le_refl _,o.iter_walk⟩);obtain⟨m,y⟩:∃m,k.alloc (.cells #[.int .i64 u,.int .i64 q] 67)=m:=⟨_,rfl⟩;have G:J j m:=by rw [<- y];exact h j k _ none Z (World.grownBy_alloc k _ none) (fun r e=>by cases e)
   obtain⟨fn,Hc,Ha,Hb,hy,M⟩:=V j (u,q) m G (by have:=s.out;omega);have g:Bx2 m k.heap.size (.int .i64 u) (.int .i64 q):=by rw [<- y];exact Bx2.made _ _ _ _
   have Q:=S.alloc (.cells #[.int .i64 u,.int .i64 q] 67);rw [y] at Q;have q0:=g.c0;have q1:=g.c1;clear T g;dsimp only [dtV,Qgc] at K hy M ⊢;gi_wp2
   try rw [y]
   refine M.mono ?_;rintro e W3 ⟨rfl,H,X⟩;gi_wp2
   have U:=Q.of_walks X;go_roundw;case rel=>exact⟨_,Y,j++[(u,q)],U,by have:=s.out;simp;omega,p.step z.out QaD (fun _ _=>Qgm) B D I,H⟩
   case measure=>rw [U.left_eq,o.left_eq];exact F
def kCells (x:Dt):List Value:=[.int .i64 x.1,.int .i64 x.2]
def kRow (ss:List Dt):List Value:=ss.flatMap kCells
theorem QdI (ss:List Dt)(x:Dt):kRow (ss++[x])=kRow ss++kCells x:=by simp [kRow]
theorem Qns:(Tryz.prog.info? 67).map (fun i=>(i.zero,i.size,i.bytes))=some (some (.agg #[.int .i64 0,.int .i64 0]),2,16):=by kernel_rfl
def apA:Code:=(Code.region 2 #[{dst:=some 5,op:=Op.alloc 67,type:=0,pos:= "iter.go:51",after:=#[],guard:=none},{dst:=none,op:=Op.store 67 (Operand.tmp 5) (Operand.tmp 7),type:=0,pos:= "iter.go:51",after:=#[{on:=0,ground:=Ground.data},{on:=0,ground:=Ground.phase}],guard:=none}] false)
def apB:Code:=(Code.block 1 (Code.region 3 #[{dst:=some 8,op:=Op.load 143 (Operand.tmp 2),type:=143,pos:= "iter.go:52",after:=#[],guard:=none},{dst:=some 9,op:=Op.load 67 (Operand.tmp 5),type:=67,pos:= "iter.go:52",after:=#[],guard:=none},{dst:=some 10,op:=Op.buildSlice 143 1 #[(0,Operand.tmp 9)],type:=143,pos:= "iter.go:52",after:=#[{on:=1,ground:=Ground.data}],guard:=none},{dst:=some 11,op:=Op.call {callee:=Callee.builtin Builtin.append,args:=#[Operand.tmp 8,Operand.tmp 10],argTypes:=#[143,143]},type:=143,pos:= "iter.go:52",after:=#[{on:=0,ground:=Ground.data},{on:=2,ground:=Ground.data}],guard:=none},{dst:=none,op:=Op.store 143 (Operand.tmp 2) (Operand.tmp 11),type:=0,pos:= "iter.go:52",after:=#[{on:=3,ground:=Ground.data},{on:=3,ground:=Ground.chain},{on:=0,ground:=Ground.phase},{on:=1,ground:=Ground.phase},{on:=2,ground:=Ground.phase},{on:=3,ground:=Ground.phase}],guard:=none}] false))
def Qbq (fn:FuncId)(sv:Value)(Bs D:Nat)(st:LoopState):Loop:=
 {state:=st,pending:=none,fn,tmps:=#[.slice none 0 0,sv,.pointer (some ⟨Bs,0,none⟩),undef,.slice none 0 0,undef,sv,undef,undef,undef,undef,undef,undef],params:=#[7],assign:=apA,body:=apB,defers:=D}
structure QhJ (w0:World)(fn:FuncId)(sv:Value)(Bs l D:Nat)(ss:List Dt)(W:World):Prop where
 box:∃v,W.heap[Bs]? =some (.cells #[v] 143 (0,0))/\ W.ownsRow w0.heap.size 67 2 v ss.length (kRow ss)/\ (v=.slice none 0 0↔ss=[])
 L:W.heap[l]? =some (.loop (Qbq fn sv Bs D .ready))
 K:W.heap[D]? =some (.deferred (some []))
 below:RowKit.Below w0.heap.size w0 W
theorem QbW (w0:World)(fn:FuncId)(sv:Value)(Bs l D B:Nat)(hB:w0.heap.size<=B):AbidesFrom B (QhJ w0 fn sv Bs l D):=fun s W W' row h hg hrow=>by
 have j:∀r,row=some r ->∃o:Obj,W.heap[r]? =some o/\ o.isWalk=true:=fun r e=>(hrow r e).2;obtain⟨v,m,u,q⟩:=h.box;exact⟨⟨v,(grownBy_keeps hg j m rfl).trans m,ownsRow_abides_a u hg j,q⟩,(grownBy_keeps hg j h.L rfl).trans h.L,(grownBy_keeps hg j h.K rfl).trans h.K,h.below.grown hg h.below.size (fun k e=>Nat.le_trans hB (hrow k e).1)⟩
theorem QeF (m:Nat)(w0:World)(fn:FuncId)(sv:Value)(Bs l D:Nat)(hBl:Bs≠l)(hDl:D≠l)(hDB:D≠Bs)(h0B:w0.heap.size<=Bs)(h0l:w0.heap.size<=l)
    (N:Nat) (hN:N<=maxLen) (hNb:N*16<=140737488355328) (ss:List Dt) (x:Dt) (W:World) (h:QhJ w0 fn sv Bs l D ss W) (hlen:ss.length<N):
    YieldAt Fence.wide m Tryz.prog l #[dtV x] W fun e W'=>e=.returned (.bool true)/\ QhJ w0 fn sv Bs l D (ss++[x]) W'/\ KeepsWalks W W':=by
  have Hj:143≠67:=by decide
  obtain⟨i0,hi,Ht,Hu,Hv⟩:=info_parts Qns;refine⟨fn,#[.slice none 0 0,sv,.pointer (some ⟨Bs,0,none⟩),undef,.slice none 0 0,undef,sv,dtV x,undef,undef,undef,undef,undef],apA,apB,by simpa [Qbq] using run_yield (P:=Tryz.prog) (args:=#[dtV x]) h.L rfl,roundIn_of_wpIn trivial ?_⟩;obtain⟨s,p⟩:=x;obtain⟨y,X⟩:∃y,W.alloc (.cells #[.int .i64 s,.int .i64 p] 67)=y:=⟨_,rfl⟩;have z:QhJ w0 fn sv Bs l D ss y:=by rw [<- X];exact QbW w0 fn sv Bs l D w0.heap.size zL ss W _ none h (World.grownBy_alloc W _ none) (fun r e=>by cases e)
  have Hi:KeepsWalks W y:=by rw [<- X];exact KeepsWalks.alloc _ _
  have E:Bx2 y W.heap.size (.int .i64 s) (.int .i64 p):=by rw [<- X];exact Bx2.made _ _ _ _
  have H0:l<W.heap.size:=(Array.getElem?_eq_some_iff.1 h.L).1;obtain⟨v,hv,C,_⟩:=z.box;have hl:l<y.heap.size:=(Array.getElem?_eq_some_iff.1 z.L).1;have Hm:=run_beginRound (P:=Tryz.prog) z.L rfl;obtain⟨q,i⟩:∃q,y.putObj l (.loop {Qbq fn sv Bs D .ready with state:=.busy})=q:=⟨_,rfl⟩;rw [i] at Hm;have U:y.grownBy q (some l):=by rw [<- i];exact grownBy_putObj_a _ _ _
  have Ho:KeepsWalks W q:=Hi.trans (by rw [<- i];exact KeepsWalks.putObj _ z.L rfl);have Z:q.heap[Bs]? =some (.cells #[v] 143 (0,0)):=by rw [<- i];exact(World.putObj_heap_other hBl).trans hv
  have I:q.heap[D]? =some (.deferred (some [])):=by rw [<- i];exact(World.putObj_heap_other hDl).trans z.K
  have J:q.heap[l]? =some (.loop {Qbq fn sv Bs D .ready with state:=.busy}):=by rw [<- i];exact World.putObj_heap_same hl
  have F:q.ownsRow w0.heap.size 67 2 v ss.length (kRow ss):=C.kept U (ownsRow_ne_a C z.L (fun cur e=>by cases e));have Q:RowKit.Below w0.heap.size w0 q:=z.below.grown U z.below.size (fun k e=>by cases e;exact h0l);have H:q.heap[W.heap.size]? =y.heap[W.heap.size]? :=U.block _ E.lt (fun e=>by injection e with e;omega);have q0:q.cell? ⟨W.heap.size,0,none⟩=some (.int .i64 s):=(World.cell?_of_block (a:=⟨W.heap.size,0,none⟩) H).trans E.c0;have q1:q.cell? ⟨W.heap.size,1,none⟩=some (.int .i64 p):=(World.cell?_of_block (a:=⟨W.heap.size,1,none⟩) H).trans E.c1;obtain⟨Hw,Hy⟩:=cell_of_box_a Z;have Hb:Bs<q.heap.size:=(Array.getElem?_eq_some_iff.1 Z).1;have Hq:l<q.heap.size:=(Array.getElem?_eq_some_iff.1 J).1;have Hc:D<q.heap.size:=(Array.getElem?_eq_some_iff.1 I).1;have ne_of:∀{j:Nat} {o:Obj},q.heap[j]? =some o ->(∀cur,o≠.cells cur 67 (0,0)) ->some j≠v.ownBlock:=fun hj hno=>by
    rcases ownsRow_ne_a F hj hno with e|e
    · rw [e];simp
    · exact fun e'=>e e'.symm
  have G:=hid F;have HZ:=hid Q.size;clear i C F E H U Hi;unfold apA;dsimp only [dtV,Qgc];gi_wp2_with gi_round_op_a
  unfold apB;gi_wp2_with (first
    | (gi_at_builtin;refine wpListIn_append_own _ rfl _ _ 143 rfl w0.heap.size 67 i0 (.agg #[.int .i64 0,.int .i64 0]) 2 16 Tryz.underlying143 hi Ht Hu Hv rfl (by decide) _ _ _ rfl (G.alloc _) ⟨q.heap.size,0,none⟩ 1 1 [.int .i64 s,.int .i64 p] rfl rfl (cell_two_new _ _ _ _) (by simp [Value.oneCell']) (by omega) (by omega) (by have:=HZ.out;simp;omega) ?_;intro v' g B Hh Hk
       have R:g.heap[Bs]? =some (.cells #[v] 143 (0,0)):=(Hh.block Bs (by simp;omega) (ne_of Z (fun cur e=>Hj (Obj.cells.inj e).2.1))).trans ((Below.heap_alloc _ _ Bs Hb).trans Z)
       obtain⟨Hx,Hz⟩:=cell_of_box_a R
       obtain⟨b,t,M,rfl,Hd,Hn,H1,H2,H3,H4⟩:∃b t M,v'=.slice (some ⟨b,0,none⟩) (ss.length+1) t/\ w0.heap.size<=b/\ g.heap[b]? =some (.cells M 67 (0,0))/\ ss.length+1<=t/\ t<=maxLen/\ M.size=t*2/\ M.toList.take ((ss.length+1)*2)=kRow ss++[.int .i64 s,.int .i64 p]:=by
         rcases B.2 with ⟨_,h0⟩|h'
         · exact absurd h0 (by omega)
         · exact h'
       have S:=hid B
       clear B
       try go_frame)
    | gi_round_op_a)
  have V:(q.alloc (.cells #[.int .i64 s,.int .i64 p] 67)).grownBy g v.ownBlock:=Hh;have He:g.heap[l]? =some (.loop {Qbq fn sv Bs D .ready with state:=.busy}):=(V.block l (by simp;omega) (ne_of J (fun cur e=>by cases e))).trans ((Below.heap_alloc _ _ l Hq).trans J);have T:g.heap[D]? =some (.deferred (some [])):=(V.block D (by simp;omega) (ne_of I (fun cur e=>by cases e))).trans ((Below.heap_alloc _ _ D Hc).trans I);obtain⟨u,A⟩:∃u,g.setCell ⟨Bs,0,none⟩ (.slice (some ⟨b,0,none⟩) (ss.length+1) t)=u:=⟨_,rfl⟩;rw [A];have Y:g.grownBy u (some Bs):=by rw [<- A];exact grownBy_setCell0_a _ _ _
  have Hs:u.heap[Bs]? =some (.cells #[.slice (some ⟨b,0,none⟩) (ss.length+1) t] 143 (0,0)):=by rw [<- A];exact heap_setCell_box_a _ R
  have O:u.heap[l]? =some (.loop {Qbq fn sv Bs D .ready with state:=.busy}):=(Y.block l (Array.getElem?_eq_some_iff.1 He).1 (fun e=>hBl (by cases e;rfl))).trans He;have Hl:u.heap[D]? =some (.deferred (some [])):=(Y.block D (Array.getElem?_eq_some_iff.1 T).1 (fun e=>hDB (by cases e;rfl))).trans T;have Ha:=S.kept Y (ownsRow_ne_a S.out R (fun cur e=>Hj (Obj.cells.inj e).2.1));have Hr:l<u.heap.size:=(Array.getElem?_eq_some_iff.1 O).1;have Hf:RowKit.Below w0.heap.size w0 g:=(Q.alloc Q.size _).grown V (by have:=Q.size;simp;omega) (fun k e=>(G.lt k e).1);have Hg:RowKit.Below w0.heap.size w0 u:=Hf.grown Y Hf.size (fun k e=>by cases e;exact h0B);have Hp:KeepsWalks W u:=((Ho.trans (KeepsWalks.alloc _ _)).trans (KeepsWalks.of_grownBy V (ownsRow_not_walk_a (G.alloc _)))).trans (by rw [<- A];exact KeepsWalks.setCell _ _ _);clear A;refine⟨_,_,run_endRound none O,rfl,⟨⟨_,(World.putObj_heap_other hBl).trans Hs,?_,by simp⟩,World.putObj_heap_same Hr,(World.putObj_heap_other hDl).trans Hl,Hg.grown (grownBy_putObj_a _ _ _) Hg.size (fun k e=>by cases e;exact h0l)⟩,Hp.trans (KeepsWalks.putObj _ O rfl)⟩;have:=Ha.kept (grownBy_putObj_a u l (.loop {{Qbq fn sv Bs D .ready with state:=.busy} with state:=if (none:Option Code).isNone then .ready else .done,pending:=none})) (ownsRow_ne_a Ha O (fun cur e=>by cases e));rw [QdI];simpa [kCells] using this
theorem QcM (n:Nat)(hn:2<=n)(g:Nat)(lb:Array Value)(eg:∀args w,(callFunc g args).run Tryz.prog w=.ok (.enter g args) w)
  (S:List Dt ->Prop) (N:Nat) (hN:N<=maxLen) (hNb:N*16<=140737488355328) (w:World) (hseq:SeqGives Fence.wide (n - 1) Tryz.prog g lb dtV S N w):
  CallsIn Fence.wide n Tryz.prog 151 #[.slice none 0 0,.func (.func g) #[] lb] w fun e w'=>∃(v:Value) (y:List Dt),e=.returned v/\ S y/\ w'.ownsRow w.heap.size 67 2 v y.length (kRow y)/\ (v=.slice none 0 0↔y=[])/\ RowKit.Below w.heap.size w w':=by
 have F:143≠67:=by decide
 refine callsIn_of_wp_marks Tryz.func151 rfl trivial ?_ rfl;simp only [Tryz.ntmps151,List.size_toArray,List.length_cons,List.length_nil,Nat.reduceAdd,Nat.reduceSub,Array.replicate_succ,Array.replicate_zero,List.push_toArray,List.append_toArray,List.nil_append,List.cons_append];gi_wp2
 refine wpIn_rangeFunc ?_;intro r D;obtain⟨j,t⟩:∃j,w.alloc (.cells #[.slice none 0 0] 143)=j:=⟨_,rfl⟩;have G:j.heap.size=w.heap.size+1:=by rw [<- t];simp
 have I:j.heap[w.heap.size]? =some (.cells #[.slice none 0 0] 143 (0,0)):=by rw [<- t];exact World.alloc_heap_new w _
 have o:RowKit.Below w.heap.size w j:=by rw [<- t];exact(RowKit.Below.refl _ w).alloc zL _
 rw [t];obtain⟨m,z⟩:∃m,(j.alloc (.deferred (some []))).alloc (.loop (Qbq r (.func (.func g) #[] lb) w.heap.size j.heap.size .ready))=m:=⟨_,rfl⟩;have Z:∀k,k<j.heap.size ->m.heap[k]? =j.heap[k]? :=fun k hk=>by
  rw [<- z];exact(Below.heap_alloc _ _ k (by simp;omega)).trans (Below.heap_alloc _ _ k hk)
 have i:RowKit.Below w.heap.size w m:=by rw [<- z];exact(o.alloc o.size _).alloc (by have:=o.size;simp;omega) _
 have U:QhJ w r (.func (.func g) #[] lb) w.heap.size (j.heap.size+1) j.heap.size [] m:=
  ⟨⟨_,(Z w.heap.size (by omega)).trans I,⟨rfl,.inl ⟨rfl,rfl⟩⟩,by simp⟩,
   by rw [<- z];have:=World.alloc_heap_new (j.alloc (.deferred (some []))) (.loop (Qbq r (.func (.func g) #[] lb) w.heap.size j.heap.size .ready));rwa [World.size_alloc] at this,
   by rw [<- z];exact(Below.heap_alloc _ _ _ (by simp)).trans (World.alloc_heap_new j _),i⟩
 refine⟨j.heap.size+1,[{target:=.collected j.heap.size,args:=#[]}],m,{target:=.fn (.func g) lb,args:=#[.func (.yield (j.heap.size+1)) #[] #[]]},m,g,
  #[.func (.yield (j.heap.size+1)) #[] #[]]++lb,m,?_,?_,?_,?_,fun _=>by omega,?_⟩
 ·rw [<- z];exact run_enterLoop_outer _ _ _ _ _
 ·simp [resolve,go_sem]
 ·intro f' B;trivial
 ·simp [invoke,go_sem,eg]
 ·refine(hseq (j.heap.size+1) (QhJ w r (.func (.func g) #[] lb) w.heap.size (j.heap.size+1) j.heap.size) m i (QbW _ _ _ _ _ _ _ i.size)
   (fun pre x W hJ hl=>QeF (n - 1 - 1) w r _ w.heap.size (j.heap.size+1) j.heap.size (by omega) (by omega) (by omega) zL (by omega) N hN hNb pre x W hJ hl) U).mono ?_
  rintro e s ⟨⟨R,rfl⟩,y,V,u⟩;obtain⟨v,H,b,Y⟩:=u.box;have M:=run_endLoop (P:=Tryz.prog) u.L (by simp [Qbq]);obtain⟨q,h⟩:∃q,s.putObj (j.heap.size+1) (.loop {Qbq r (.func (.func g) #[] lb) w.heap.size j.heap.size .ready with state:=.exhausted})=q:=⟨_,rfl⟩;rw [h] at M;have O:s.grownBy q (some (j.heap.size+1)):=by rw [<- h];exact grownBy_putObj_a _ _ _
  have J:q.heap[w.heap.size]? =some (.cells #[v] 143 (0,0)):=by rw [<- h];exact(World.putObj_heap_other (by omega)).trans H
  have A:q.heap[j.heap.size]? =some (.deferred (some [])):=by rw [<- h];exact(World.putObj_heap_other (by omega)).trans u.K
  have Q:=b.kept O (ownsRow_ne_a b u.L (fun cur e=>by cases e));have E:RowKit.Below w.heap.size w q:=u.below.grown O u.below.size (fun k e=>by cases e;omega);obtain⟨X,C⟩:=cell_of_box_a J;have p:=hid Q;clear h b Q;refine⟨none,q,M,?_⟩;gi_wp2
  rw [<- G];refine⟨by simp,.inl ⟨_,_,rfl,run_takeDeferred A,?_⟩⟩;exact⟨_,results_tmp rfl _ _ _,v,y,rfl,V,p.kept (grownBy_putObj_a _ _ _) (ownsRow_ne_a p.out A (fun cur e=>by cases e)),Y,E.grown (grownBy_putObj_a _ _ _) E.size (fun k e=>by cases e;omega)⟩
theorem QeM (g:Nat)(lb:Array Value)(eg:∀args w,(callFunc g args).run Tryz.prog w=.ok (.enter g args) w)
  (S:List Dt ->Prop) (N:Nat) (hN:N<=maxLen) (hNb:N*16<=140737488355328) (w:World) (hseq:SeqGives Fence.wide 4 Tryz.prog g lb dtV S N w):
  Calls Tryz.prog 120 #[.func (.func g) #[] lb] w fun e w'=>∃(v:Value) (j:List Dt),e=.returned v/\ S j/\ w'.ownsRow w.heap.size 67 2 v j.length (kRow j)/\ (v=.slice none 0 0↔j=[])/\ RowKit.Below w.heap.size w w':=by
 have m:=hid ((callsIn_wide (n:=5)).1 (QcM 5 (by omega) g lb eg S N hN hNb w hseq));go_enter Tryz.func120,Tryz.ntmps120;go_wp2_with fail;refine m.mono ?_;rintro e w' ⟨v,j,rfl,q,y,u,r⟩;have k:=hid (And.intro q (And.intro y (And.intro u r)));clear q y u r m;go_wp2_with fail;go_ret;exact⟨v,j,rfl,k.1,k.2.1,k.2.2.1,k.2.2.2⟩
theorem QcS (Bm b nn:Nat)(f:Dt ->Option ByteArray)(D0:DataW Value)(w:World)(hBm:Bm<w.heap.size)(hm:w.cell? ⟨Bm,0,none⟩=some (.map (some b)))(hF:FM w 67 dtV Qey b nn f D0):
  SeqGives Fence.wide 4 Tryz.prog 122 #[.pointer (some ⟨Bm,0,none⟩)] dtV (Qd0 f) (Maps.size D0) w:=fun l J W hW hJ hY h0=>by
 have j:FM W 67 dtV Qey b nn f D0:=⟨QbI hF.own (hW.block b hF.own.lt),hF.at',hF.cov,hF.ok⟩;exact Qg2 4 l Bm b nn f D0 J (by omega) hY W hJ ((hW.cell (p:=⟨Bm,0,none⟩) hBm).trans hm) j h0
theorem QbZ (x y:Dt)(w:World):Calls Tryz.prog 100 #[.agg #[.int .i64 x.1,.int .i64 x.2],.agg #[.int .i64 y.1,.int .i64 y.2]] w fun e w'=>e=.returned (.int .i64 (Qbh x y))/\ Bw w w':=by
 obtain⟨s,k⟩:=x;obtain⟨q,m⟩:=y;dsimp only;obtain⟨W,u⟩:∃W,(w.alloc (.cells #[.int .i64 s,.int .i64 k] 67)).alloc (.cells #[.int .i64 q,.int .i64 m] 67)=W:=⟨_,rfl⟩;have b:Bw w W:=by rw [<- u];exact⟨Qak _ _ _,Nat.le_refl _⟩
 have t:Bx2 W w.heap.size (.int .i64 s) (.int .i64 k):=by rw [<- u];exact(Bx2.made w _ _ _).allocs _
 have o:Bx2 W (w.heap.size+1) (.int .i64 q) (.int .i64 m):=by rw [<- u];simpa using Bx2.made (w.alloc (.cells #[.int .i64 s,.int .i64 k] 67)) (.int .i64 q) (.int .i64 m) 67
 have v:=hid b;have h:=hid t;have g:=hid o;clear b t o;go_enter Tryz.func100,Tryz.ntmps100;go_wp2_with fail;try rw [u]
 clear u;have z:Hid (∀w',Bw W w' ->(Bw W w'/\ w'.cell? ⟨w.heap.size,0,none⟩=some (.int .i64 s)/\ w'.cell? ⟨w.heap.size,1,none⟩=some (.int .i64 k)/\ w'.cell? ⟨w.heap.size+1,0,none⟩=some (.int .i64 q)/\ w'.cell? ⟨w.heap.size+1,1,none⟩=some (.int .i64 m))):=hid (fun w' r=>by
  have x0:=h.below r.1 h.lt;have p:=g.below r.1 g.lt;exact⟨r,x0.c0,x0.c1,p.c0,p.c1⟩)
 refine zR (S:=fun w'=>Bw W w'/\ w'.cell? ⟨w.heap.size,0,none⟩=some (.int .i64 s)/\ w'.cell? ⟨w.heap.size,1,none⟩=some (.int .i64 k)/\ w'.cell? ⟨w.heap.size+1,0,none⟩=some (.int .i64 q)/\ w'.cell? ⟨w.heap.size+1,1,none⟩=some (.int .i64 m)) (z _ ⟨zI.drew,Nat.le_succ _⟩) (fun qh=> ?_);refine tZ 0 5 ?_;refine tZ 1 6 ?_;refine tZ 2 7 ?_;refine tZ 3 8 ?_;refine tZ 5 10 ?_;refine tZ 6 11 ?_;refine tZ 7 12 ?_;refine tZ 8 13 ?_;refine cZ 4 ?_;intro K j;go_simp;refine(QbY s q _).mono ?_;rintro e w1 ⟨rfl,rfl⟩;refine j.out _ _ qh (fun qh=> ?_);clear j K;try simp only [zP]
 refine cZ 9 ?_;intro K j;go_simp;refine(QbY k m _).mono ?_;rintro e E ⟨rfl,rfl⟩;refine j.out _ _ qh (fun qh=> ?_);clear j K;try simp only [zP]
 refine cZ 10 ?_;intro K j;go_simp;have r:Bw W (W.drew.alloc (.cells #[.int .i64 (QaT s q),.int .i64 (QaT k m)] 3)):=⟨qh.1.1.alloc qh.1.1.size _,qh.1.2⟩;refine j.out _ _ (z _ r) (fun qh=> ?_);clear j K;try simp only [zP]
 refine cZ 11 ?_;intro K j;go_simp;refine(Qi1 _ 2 2 (fun i=>if i=0 then QaT s q else QaT k m) _ (by omega) (fun i hi=> ?_)).mono ?_
 ·match i,hi with
  | 0,_=>simp
  | 1,_=>simp
 rintro e M ⟨rfl,rfl⟩;refine j.out _ _ qh (fun qh=> ?_);clear j K;try simp only [zP]
 refine tZ 12 4 ?_;refine zD ?_;have A:Hid (Bw w (W.drew.alloc (.cells #[.int .i64 (QaT s q),.int .i64 (QaT k m)] 3))):=hid ⟨v.1.trans (qh.1.1.mono v.1.size),Nat.le_trans v.2 qh.1.2⟩;clear qh r;go_wp2_with fail;go_ret;exact⟨QbB nz2,A.out⟩
theorem Qb9 (x:Dt):(kCells x).length=2:=rfl
theorem Qbm (ss:List Dt):(kRow ss).length=ss.length*2:=by
 induction ss with
 | nil=>rfl
 | cons x r ih=>simp only [kRow,List.flatMap_cons,List.length_append,List.length_cons] at*;rw [ih,Qb9];omega
theorem kRow_get:∀(ss:List Dt) (t:Nat),t<ss.length*2 ->(kRow ss)[t]? =some ((kCells ss.toArray[t/2]!)[t%2]!)
 | [],t,h=>by simp at h
 | x::r,t,h=>by
  rcases Nat.lt_or_ge t 2 with q|q
  ·have:t=0 \/t=1:=by omega
   rcases this with rfl|rfl<;>simp [kRow,kCells]
  ·obtain⟨u,rfl⟩:∃u,t=u+2:=⟨t - 2,by omega⟩;have y:=kRow_get r u (by simp at h;omega);have j:(u+2)/2=u/2+1:=by omega
   have k:(u+2)%2=u%2:=by omega
   rw [j,k];have v:u/2<r.length:=by simp at h;omega
   have m:(x::r).toArray[u/2+1]! =r.toArray[u/2]! :=by
    rw [getElem!_pos _ _ (by simp;omega),getElem!_pos _ _ (by simpa using v)];simp
   rw [m,<- y];simp [kRow,kCells]
theorem Qd8 (ss:List Dt):(flatK kCells 2 ss.toArray).toList=kRow ss:=by
 apply List.ext_getElem?;intro t;by_cases h:t<ss.length*2
 ·rw [kRow_get ss t h];have j:t<(flatK kCells 2 ss.toArray).size:=by simpa using h
  have:=get_flatK kCells 2 ss.toArray t (by simpa using h);rw [getElem!_pos _ t j] at this;rw [Array.getElem?_toList,Array.getElem?_eq_getElem j,this]
 ·rw [List.getElem?_eq_none (by simp;omega),List.getElem?_eq_none (by rw [Qbm];omega)]
theorem Qcb {w:World}{g n:Nat}{os:Array Obj}{cur:Array Value}{e:TypeId}{fr:Nat×Nat}(d:Array Value)(hb:w.heap[g]? =some (.cells cur e fr)):
  (grow (putRow id (Sort.ahead w n) g 0 d) os).heap[g]? =some (.cells (putCells id 0 d cur) e fr):=by
 have j:g<w.heap.size:=(Array.getElem?_eq_some_iff.1 hb).1;rw [heap_grow_old _ _ (by simpa [putRow,mapBlock,Sort.ahead] using j)];simp [putRow,mapBlock,Sort.ahead,Array.getElem?_modify,hb,onCells]
theorem Qbr {w:World}{g n:Nat}{os:Array Obj}(d:Array Value):w.grownBy (grow (putRow id (Sort.ahead w n) g 0 d) os) (some g):=by
 refine⟨rfl,rfl,rfl,by simp [grow,putRow,mapBlock,Sort.ahead],fun k hk hne=> ?_⟩;rw [heap_grow_old _ _ (by simpa [putRow,mapBlock,Sort.ahead] using hk)];have:g≠k:=fun e=>hne (by rw [e]);simp [putRow,mapBlock,Sort.ahead,Array.getElem?_modify,this]
theorem Qed (cur:Array Value)(ts:List Value)(h:ts.length<=cur.size):(putCells id 0 ts.toArray cur).toList.take ts.length=ts:=by
 apply List.ext_getElem?;intro j;by_cases k:j<ts.length
 ·rw [List.getElem?_take_of_lt k,Array.getElem?_toList];simp [putCells,k,show j<cur.size by omega]
 ·rw [List.getElem?_take_eq_none (by omega),List.getElem?_eq_none (by omega)]
theorem Qgn:∀args w,(callFunc 100 args).run Tryz.prog w=.ok (.enter 100 args) w:=enters_of Tryz.func100 (by kernel_rfl) rfl
theorem QeJ (blk off size:Nat)(w:World):CmpLays Tryz.prog 100 #[] kCells 2 Qbh blk off size w:=fun m os dk _ x y=>
 (QbZ x y _).mono fun e w' ⟨he,hb⟩=>⟨he,hb.grown⟩
theorem QdY (B blk cap:Nat)(ss:List Dt)(w:World)(ho:w.ownsRow B 67 2 (.slice (some ⟨blk,0,none⟩) ss.length cap) ss.length (kRow ss))(hsz:ss.length<=1048576):
  Calls Tryz.prog 121 #[.slice (some ⟨blk,0,none⟩) ss.length cap,.func (.func 100) #[] #[]] w fun e w'=>e=.returned (.tuple #[])/\∃ts:List Dt,ts.Perm ss/\ SortedIn (ltOf Qbh) 0 ts.length ts.toArray/\ w'.ownsRow B 67 2 (.slice (some ⟨blk,0,none⟩) ss.length cap) ss.length (kRow ts)/\ w.grownBy w' (some blk):=by
 rcases ho.2 with ⟨o,_⟩|⟨Y,V,z,q,E,m,i,b,p,s⟩
 ·cases o
 cases q;have M:blk<w.heap.size:=(Array.getElem?_eq_some_iff.1 m).1;have A:HoldsK kCells 2 w blk 0 ss.toArray:=by
  intro t U;have y:t<ss.length*2:=by simpa using U
  refine⟨?_,by simp [World.frozen?,m]⟩;have k:(z.toList.take (ss.length*2))[t]? =(kRow ss)[t]? :=by rw [s]
  rw [List.getElem?_take_of_lt y,kRow_get ss t y] at k;have r:=get_flatK kCells 2 ss.toArray t (by simpa using y);rw [r];simp only [World.cell?,m,Nat.zero_add,Option.isSome_none,Bool.false_eq_true,if_false];rw [<- Array.getElem?_toList,k];rfl
 have u:=AnyQ.slices_SortFunc Tryz.sortD 2 Tryz.isAgg67 Tryz.sizeOf67 kCells Qb9 (fun x v q=>by simp [kCells] at q;rcases q with rfl|rfl<;>rfl) Qbh QaF.dot.swo 100 #[] blk 0 cap ss.toArray w Qgn (QeJ blk 0 _ w) A M (by simp;omega);change Calls Tryz.prog 121 _ _ _ at u;simp only [List.size_toArray] at u;refine u.mono ?_;rintro e w' ⟨rfl,d',n,Z,h,Q,rfl⟩;have j:d'.size=ss.length:=by simpa using h.1
 have O:d'.toList.Perm ss:=by
  have:=h.2.2;have k:d'.extract 0 ss.length=d':=by rw [<- j];simp
  have r:ss.toArray.extract 0 ss.length=ss.toArray:=by simp
  rw [k,r] at this;simpa using this
 refine⟨rfl,d'.toList,O,by simpa [j] using Q,⟨by rw [Qbm];simp [j],.inr ⟨blk,cap,_,rfl,E,Qcb _ m,i,b,by simp [putCells,p],?_⟩⟩,Qbr _⟩;have g:flatK kCells 2 d'=(kRow d'.toList).toArray:=by
  have:=Qd8 d'.toList;simp only [Array.toArray_toList] at this;rw [<- this]
 rw [g];have:=Qed z (kRow d'.toList) (by rw [Qbm];simp [j];omega);rw [Qbm] at this;simpa [j] using this
theorem QcU {ts:List Dt}(h:ts.Nodup)(hs:SortedIn (ltOf Qbh) 0 ts.length ts.toArray):ts.Pairwise (fun x y=>Qbh x y<0):=by
 have:=QaF.dot.rises (d:=ts.toArray) (by simpa using hs) (by simpa using h);simpa using this
theorem Qc0 (g:Nat)(lb:Array Value)(eg:∀args w,(callFunc g args).run Tryz.prog w=.ok (.enter g args) w)(N:Nat)(f:Dt ->Option ByteArray)(w:World)(hN:N<=1048576)(hseq:SeqGives Fence.wide 4 Tryz.prog g lb dtV (Qd0 f) N w):
  Calls Tryz.prog 98 #[.func (.func g) #[] lb,.func (.func 100) #[] #[]] w fun e w'=>∃(v:Value) (j:List Dt),e=.returned v/\ j.Pairwise (fun x y=>Qbh x y<0)/\ (∀x,x∈j↔f x≠none)/\ j.length<=1048576/\ w'.ownsRow w.heap.size 67 2 v j.length (kRow j)/\ RowKit.Below w.heap.size w w':=by
 have o:=hid (QeM g lb eg _ N (by unfold maxLen;omega) (by omega) w (SeqGives.bounded hseq));go_enter Tryz.func98,Tryz.ntmps98;go_wp2_with fail;refine o.mono ?_;rintro e w1 ⟨v,b,rfl,⟨h,B⟩,q,H,t⟩;rcases q.2 with ⟨rfl,J⟩|⟨Z,cap,L,rfl,G,X,r1,r2,C,D⟩
 ·have I:b=[]:=List.eq_nil_of_length_eq_zero J;subst I;have r:=hid t;have u:=hid h;have U:=hid q;have i:=AnyF.slices_SortFunc_none Tryz.sortD none 0 (.func (.func 100) #[] #[]) w1;change Calls Tryz.prog 121 _ _ _ at i;have m:=hid i;clear t h q o i;go_wp2_with fail;refine m.mono ?_;rintro e K ⟨rfl,rfl⟩;clear m;go_wp2_with fail;go_ret;exact⟨_,[],rfl,List.Pairwise.nil,fun x=>u.2 x,by simp,U.out,r.out⟩
 ·have m:=hid (QdY w.heap.size Z cap b w1 q (by omega));have r:=hid t;have u:=hid h;have O:Hid (b.length<=1048576):=hid (by omega);have Y:=hid G;clear t h q o H;go_wp2_with fail;refine m.mono ?_;rintro e K ⟨rfl,j,A,E,s,p⟩;have Q:=hid s;have M:=hid (r.grown p r.size (fun k e=>by injection e with e;have:=Y.out;omega));have z:=hid A;have V:=hid E;clear s p A E m;go_wp2_with fail;go_ret;refine⟨_,j,rfl,QcU (z.nodup_iff.2 u.1) V.out,fun x=>by rw [z.mem_iff];exact u.2 x,by rw [z.length_eq];exact O.out,?_,M.out⟩;rw [z.length_eq];exact Q.out
theorem Qfa (n l Bm:Nat)(J:List Dt ->World ->Prop)(W:World)(hJ:AbidesFrom W.heap.size J)(hm:W.cell? ⟨Bm,0,none⟩=some (.map none))(h0:J [] W):
  CallsIn Fence.wide n Tryz.prog 122 #[.func (.yield l) #[] #[],.pointer (some ⟨Bm,0,none⟩)] W fun e W'=>(∃v,e=.returned v)/\∃ss:List Dt,Qd0 (fun _=>(none:Option ByteArray)) ss/\ J ss W':=by
 have k:=run_range_nilMap (P:=Tryz.prog) W 43 67 82 Tryz.underlying43;have j:∀ty,(Instr.next (.pointer (some ⟨W.heap.size,0,none⟩)) false ty).run Tryz.prog (W.alloc (.mapIter none 0 #[] 0))=_:=fun ty=>run_next_nilMap _ ty 0 0 #[];refine callsIn_of_wp Tryz.func122 rfl trivial ?_ rfl;simp only [Tryz.ntmps122,List.size_toArray,List.length_cons,List.length_nil,Nat.reduceAdd,Nat.reduceSub,Array.replicate_succ,Array.replicate_zero,List.push_toArray,List.append_toArray,List.nil_append,List.cons_append];gi_wp2
 refine wpIn_loop_rounds 1 ?_;rw [roundsIn_succ];gi_wp2
 go_end0;exact⟨⟨_,rfl⟩,[],⟨List.nodup_nil,fun x=>by simp⟩,hJ [] W _ none h0 (World.grownBy_alloc W _ none) (fun r e=>by cases e)⟩
theorem Qg1 (mb:Option Nat)(w:World):Calls Tryz.prog 99 #[.map mb] w fun e w'=>e=.returned (.func (.func 122) #[] #[.pointer (some ⟨w.heap.size,0,none⟩)])/\ w'=w.alloc (.cells #[.map mb] 43):=by
 go_enter Tryz.func99,Tryz.ntmps99;go_wp2_with fail;go_ret;exact⟨rfl,rfl⟩
theorem sortedDotsC (B c:Nat)(N:List Ky ->Option (Nat×Nat))(M:List Ky ->Dt ->Option ByteArray)(p:List Ky)(w:World)(hT:Tre w B N M c)(hc:c<=1048576):
  Calls Tryz.prog 70 #[.agg #[.map (mF (N p)),.map (mS (N p))]] w fun e w'=>∃(v:Value) (j:List Dt),e=.returned v/\ j.Pairwise (fun x y=>Qbh x y<0)/\ (∀x,x∈j↔M p x≠none)/\ j.length<=1048576/\ w'.ownsRow w.heap.size 67 2 v j.length (kRow j)/\ RowKit.Below w.heap.size w w':=by
 obtain⟨L,K⟩:∃u,mF (N p)=u:=⟨_,rfl⟩;obtain⟨m,t⟩:∃u,mS (N p)=u:=⟨_,rfl⟩;rw [K,t];have E:Hid (∀w1,RowKit.Below w.heap.size w w1 ->∀Bm,Bm<w1.heap.size ->w1.cell? ⟨Bm,0,none⟩=some (.map m) ->∃n,n<=1048576/\ SeqGives Fence.wide 4 Tryz.prog 122 #[.pointer (some ⟨Bm,0,none⟩)] dtV (Qd0 (M p)) n w1):=hid (fun w1 h Bm hBm k=>by
  cases e:N p with
  | some x=>
   obtain⟨D,V⟩:=(hT.below h).marks p x e;have:m=some x.2:=by rw [<- t,e];rfl
   rw [this] at k;exact⟨Maps.size D,Nat.le_trans V.own.size_le hc,QcS Bm x.2 c _ D w1 hBm k V⟩
  | none=>
   have:m=none:=by rw [<- t,e];rfl
   rw [this] at k;refine⟨0,by omega,fun l J W q hJ hY h0=> ?_⟩;have R:M p=fun _=>none:=funext fun y=>by rw [hT.none' _ e]
   rw [R];exact Qfa 4 l Bm J W hJ ((q.cell (p:=⟨Bm,0,none⟩) hBm).trans k) h0)
 obtain⟨W,q⟩:∃W,w.alloc (.cells #[.map L,.map m] 45)=W:=⟨_,rfl⟩;have U:RowKit.Below w.heap.size w W:=by rw [<- q];exact zO _ _
 have Q:Bx2 W w.heap.size (.map L) (.map m):=by rw [<- q];exact Bx2.made _ _ _ _
 have k0:=Q.c1;have A:=hid U;clear hT U Q K t;go_enter Tryz.func70,Tryz.ntmps70;go_wp2_with fail;try rw [q]
 clear q;refine(Qg1 m W).mono ?_;rintro e w1 ⟨rfl,o⟩;have h:RowKit.Below W.heap.size W w1:=by rw [o];exact zO _ _
 have b:w1.cell? ⟨W.heap.size,0,none⟩=some (.map m):=by rw [o];simp
 have X:W.heap.size<w1.heap.size:=by rw [o];simp
 have z:=hid (A.trans (h.mono A.size));obtain⟨n,T,I⟩:=E w1 z.out W.heap.size X b;have O:=hid (Qc0 _ _ (enters_of Tryz.func122 (by kernel_rfl) rfl) n (M p) w1 T I);clear I o h b X k0 E;go_wp2_with fail;refine O.mono ?_;rintro e w2 ⟨v,j,rfl,H,k,Z,G,Y⟩;have i:=hid (And.intro H (And.intro k Z));have C:=hid (z.trans (Y.mono z.size));have F:Hid (w2.ownsRow w.heap.size 67 2 v j.length (kRow j)):=hid (by
  obtain⟨q1,s⟩:=G;refine⟨q1,?_⟩;rcases s with s|⟨g,cap,P,e,S,r⟩
  ·exact .inl s
  ·exact .inr ⟨g,cap,P,e,Nat.le_trans z.size S,r⟩)
 clear H k Z G Y O;go_wp2_with fail;go_ret;exact⟨v,j,rfl,i.1,i.2.1,i.2.2,F.out,C.out⟩
end Go.Proofs.YtdeolligikjieaaGreatDoor.Ds
namespace Go.Proofs.YtdeolligikjieaaGreatDoor
open Go.ChangeShapes Go.WideShapes Go.ChangeAt Go.RowKit
theorem Qmm {w:World}{B g m cap:Nat}{ts:List Dt}(h:w.ownsRow B 67 2 (.slice (some ⟨g,0,none⟩) m cap) m (Ds.kRow ts))(hl:ts.length=m):∀i,i<m ->∃d,ts[i]? =some d/\ w.cell? ⟨g,i*2,none⟩=some (.int .i64 d.1)/\ w.cell? ⟨g,i*2+1,none⟩=some (.int .i64 d.2):=by
 rcases h.2 with ⟨y,_⟩|⟨o,t,k,z,A,u,b,p,s,r⟩
 ·cases y
 ·cases z;intro i E;have v:i<ts.length:=by omega
  have q:ts.toArray[i]! =ts[i]:=by rw [getElem!_pos _ _ (by simpa using v)];simp
  refine⟨ts[i],by simp [v],?_,?_⟩
  ·have j:(k.toList.take (m*2))[i*2]? =(Ds.kRow ts)[i*2]? :=by rw [r]
   rw [List.getElem?_take_of_lt (by omega),Ds.kRow_get ts (i*2) (by omega)] at j;rw [show i*2/2=i by omega,show i*2%2=0 by omega,q] at j;simp [World.cell?,u,<- Array.getElem?_toList,j,Ds.kCells]
  ·have j:(k.toList.take (m*2))[i*2+1]? =(Ds.kRow ts)[i*2+1]? :=by rw [r]
   rw [List.getElem?_take_of_lt (by omega),Ds.kRow_get ts (i*2+1) (by omega)] at j;rw [show (i*2+1)/2=i by omega,show (i*2+1)%2=1 by omega,q] at j;simp [World.cell?,u,<- Array.getElem?_toList,j,Ds.kCells]
theorem Qnu {w:World}{B:Nat}{v:Value}{ts:List Dt}(h:w.ownsRow B 67 2 v ts.length (Ds.kRow ts)):∃a cap,v=.slice a ts.length cap/\ ts.length<=cap/\ cap<=9223372036854775807/\ (0<ts.length ->∃g,a=some ⟨g,0,none⟩/\ B<=g/\ g<w.heap.size/\∀i,i<ts.length ->∃d,ts[i]? =some d/\ w.cell? ⟨g,i*2,none⟩=some (.int .i64 d.1)/\ w.cell? ⟨g,i*2+1,none⟩=some (.int .i64 d.2)):=by
 rcases h.2 with ⟨rfl,j⟩|⟨g,cap,u,rfl,r,q,k,m,y,z⟩
 ·exact⟨none,0,by rw [j],by omega,by omega,fun hh=>by omega⟩
 ·exact⟨_,cap,rfl,k,by unfold maxLen at m;omega,fun _=>⟨g,rfl,r,(Array.getElem?_eq_some_iff.1 q).1,Qmm h rfl⟩⟩
theorem Qmn {w:World}{B g m cap:Nat}{ts:List Ky}(h:w.ownsRow B 88 2 (.slice (some ⟨g,0,none⟩) m cap) m (kRow ts))(hl:ts.length=m):∀i,i<m ->∃d,ts[i]? =some d/\ w.cell? ⟨g,i*2,none⟩=some (.string d.1)/\ w.cell? ⟨g,i*2+1,none⟩=some (.int .i64 d.2):=by
 rcases h.2 with ⟨y,_⟩|⟨o,t,k,z,A,u,b,p,s,r⟩
 ·cases y
 ·cases z;intro i E;have v:i<ts.length:=by omega
  have q:ts.toArray[i]! =ts[i]:=by rw [getElem!_pos _ _ (by simpa using v)];simp
  refine⟨ts[i],by simp [v],?_,?_⟩
  ·have j:(k.toList.take (m*2))[i*2]? =(kRow ts)[i*2]? :=by rw [r]
   rw [List.getElem?_take_of_lt (by omega),kRow_get ts (i*2) (by omega)] at j;rw [show i*2/2=i by omega,show i*2%2=0 by omega,q] at j;simp [World.cell?,u,<- Array.getElem?_toList,j,kCells]
  ·have j:(k.toList.take (m*2))[i*2+1]? =(kRow ts)[i*2+1]? :=by rw [r]
   rw [List.getElem?_take_of_lt (by omega),kRow_get ts (i*2+1) (by omega)] at j;rw [show (i*2+1)/2=i by omega,show (i*2+1)%2=1 by omega,q] at j;simp [World.cell?,u,<- Array.getElem?_toList,j,kCells]
theorem Qnv {w:World}{B:Nat}{v:Value}{ts:List Ky}(h:w.ownsRow B 88 2 v ts.length (kRow ts)):∃a cap,v=.slice a ts.length cap/\ ts.length<=cap/\ cap<=9223372036854775807/\ (0<ts.length ->∃g,a=some ⟨g,0,none⟩/\ B<=g/\ g<w.heap.size/\∀i,i<ts.length ->∃d,ts[i]? =some d/\ w.cell? ⟨g,i*2,none⟩=some (.string d.1)/\ w.cell? ⟨g,i*2+1,none⟩=some (.int .i64 d.2)):=by
 rcases h.2 with ⟨rfl,j⟩|⟨g,cap,u,rfl,r,q,k,m,y,z⟩
 ·exact⟨none,0,by rw [j],by omega,by omega,fun hh=>by omega⟩
 ·exact⟨_,cap,rfl,k,by unfold maxLen at m;omega,fun _=>⟨g,rfl,r,(Array.getElem?_eq_some_iff.1 q).1,Qmn h rfl⟩⟩
theorem Qkn {p:List ByteArray}{x:Lf}{y:Ky}(hx:QbV x)(h:nx p x=some y):(y.2=1 \/y.2=2) \/(y.2=3/\ p.length+2<=8):=by
 rw [Qbi] at h;obtain⟨⟨_,q⟩,e⟩:=h;have j:=congrArg Prod.snd e;unfold Qat at j;dsimp only at j;by_cases m:p.length+1<x.p.length
 ·rw [if_pos m] at j;have:=hx.1.2.1;exact .inr ⟨j.symm,by omega⟩
 ·rw [if_neg m] at j;rcases Qg0 x.fl with k|k<;>rw [k] at j
  ·exact .inl (.inl j.symm)
  ·exact .inl (.inr j.symm)
theorem TJ.nki {w:World}{B:Nat}{J:List Lf}{N:List Ky ->Option (Nat×Nat)}{c:Nat}(h:TJ w B J N c)(h0:N []≠none):NkI J J.length N:=fun z=>by
 by_cases e:z=[]
 ·rw [e];refine⟨fun _=> .inl rfl,fun _=> ?_⟩;cases hv:N [] with
  | none=>exact absurd hv h0
  | some v=>rfl
 ·obtain⟨u,y,rfl⟩:∃u y,z=u++[y]:=⟨z.dropLast,z.getLast e,(List.dropLast_concat_getLast e).symm⟩;rw [h.there u y];constructor
  ·rintro⟨x,g,m⟩;obtain⟨j,k,q⟩:=Qa1.1 g;exact .inr ⟨j,k,by rw [q];exact m⟩
  ·rintro(r|⟨j,k,m⟩)
   ·exact absurd r e
   ·exact⟨gL J j,Qa1.2 ⟨j,k,rfl⟩,m⟩
theorem Qkx (l:List Lf)(p:List ByteArray)(s:ByteArray)(d:Dt):Mk l l.length (Qac p 3++[(s,3)]) d=none:=by
 refine Classical.byContradiction fun hn=> ?_;obtain⟨j,k,e,_⟩:=QjQ.1 hn;rw [<- Qfq] at e;have:=(QjJ e.symm (by simp)).2;rcases Qg0 (gL l j).fl with h|h<;>omega
theorem Qm3 {l:List Lf}{N:List Ky ->Option (Nat×Nat)}(hN:NkI l l.length N)(p:List ByteArray)(y u:Ky)(hy:y.2≠3):N (Qac p 3++[y]++[u])=none:=by
 cases hv:N (Qac p 3++[y]++[u]) with
 | none=>rfl
 | some v=>
  exfalso;have q:(N (Qac p 3++[y]++[u])).isSome=true:=by rw [hv];rfl
  rcases (hN _).1 q with h|⟨j,o,m⟩
  ·simp at h
  ·have z:=m.length_le;simp only [List.length_append,List.length_singleton,QaW,Way] at z;have k:(Way (gL l j))[p.length]? =some y:=by
    obtain⟨t,g⟩:=m;rw [<- g];simp [QaW]
   unfold Way at k;rw [Qbu (by omega),if_pos (by omega)] at k;have r:=congrArg Prod.snd (Option.some.inj k);exact hy r.symm
noncomputable def gK (l:List Lf)(f:Nat)(p:List ByteArray)(y:Ky):List Lf:=if y.2=3 then wL l f (p++[y.1]) else dsK l p y l.length
theorem QoV (l:List Lf)(f:Nat)(p:List ByteArray):wL l (f+1) p=(kS l p l.length).flatMap (gK l f p):=rfl
theorem QhP {α:Type}(g:α ->List Lf)(ts:List α)(k:Nat):((ts.take k).flatMap g).length<=(ts.flatMap g).length:=by
 have:ts.flatMap g=(ts.take k).flatMap g++(ts.drop k).flatMap g:=by rw [<- List.flatMap_append,List.take_append_drop]
 rw [this,List.length_append];omega
theorem QeG (Bt c:Nat)(N:List Ky ->Option (Nat×Nat))(M:List Ky ->Dt ->Option ByteArray)(z:List Ky)(w:World)(hT:Tre w Bt N M c)(hc:c<=1048576)(hz:∀u,N (z++[u])=none)(bv vw:Value):
  Calls Tryz.prog 43 #[.agg #[.map (mF (N z)),.map (mS (N z))],bv,vw] w fun e w'=>e=.returned bv/\ Below w.heap.size w w':=by
 obtain⟨W,j⟩:∃W,w.alloc (.cells #[.map (mF (N z)),.map (mS (N z))] 45)=W:=⟨_,rfl⟩;have q:Below w.heap.size w W:=by rw [<- j];exact zO _ _
 have k:Bx2 W w.heap.size (.map (mF (N z))) (.map (mS (N z))):=by rw [<- j];exact Bx2.made _ _ _ _
 have m:=hid (Qc1 Bt c N M z W (hT.below q) hc);obtain⟨Z,r⟩:∃u,mF (N z)=u:=⟨_,rfl⟩;obtain⟨G,v⟩:∃u,mS (N z)=u:=⟨_,rfl⟩;rw [r,v] at k m j;rw [r,v];have E:=k.c0;have O:=k.c1;have t:=hid q;have i:=hid hz;clear k q hT r v hz;go_enter Tryz.func43,Tryz.ntmps43;go_wp2_with fail;try rw [j]
 clear j;refine m.mono ?_;rintro e w1 ⟨H,Q,rfl,A,g,s,h,y⟩;obtain rfl:Q=[]:=List.eq_nil_iff_forall_not_mem.2 fun x hx=>(g x).1 hx (by unfold QiZ;exact i x);obtain⟨U,V,rfl,b,Y,p⟩:=Qnv h;have o:=hid (Qab t.out y);simp only [List.length_nil] at b ⊢;clear A g s h y p E O m;go_wp2_with fail;refine wp_loop_rounds 1 ?_;rw [rounds_succ];go_wp2_with fail;go_ret;exact⟨rfl,o.out⟩
theorem Qc3 {R F T:Nat ->Int}{n:Nat}(l:List Lf)(w0:World)(Bt c:Nat)(N:List Ky ->Option (Nat×Nat))(hT:Tre w0 Bt N (Mk l l.length) c)(hN:NkI l l.length N)(hc:c<=1048576)(hlv:QbQ R F T n l l.length)(hbd:LvB l):∀(f:Nat) (p:List ByteArray),p.length+f=8 ->1<=f ->∀(bv:Value) (l0:List Lf) (vw:Value) (w:World),Below w0.heap.size w0 w ->LB w w0.heap.size bv l0 ->QgS w vw p ->(∀g,vw.ownBlock=some g ->bv.ownBlock≠some g) ->l0.length+(wL l f p).length<=1000000 ->
  Calls Tryz.prog 43 #[.agg #[.map (mF (N (Qac p 3))),.map (mS (N (Qac p 3)))],bv,vw] w fun e w'=>∃v,e=.returned v/\ LB w' w0.heap.size v (l0++wL l f p)/\ Gr w w' bv v
 | 0,_,_,Q,_,_,_,_,_,_,_,_,_=>by omega
 | f+1,p,hpf,_,bv,l0,vw,w,hb,ho,hvw,hne,hl=>by
  obtain⟨k1,k2⟩:=QdJ p hlv l.length zL;rw [QoV] at hl ⊢;have Lj:Hid (∀s,p.length+2<=8 ->∀(bv:Value) (l0:List Lf) (vw:Value) (w:World),Below w0.heap.size w0 w ->LB w w0.heap.size bv l0 ->QgS w vw (p++[s]) ->(∀g,vw.ownBlock=some g ->bv.ownBlock≠some g) ->l0.length+(wL l f (p++[s])).length<=1000000 ->Calls Tryz.prog 43 #[.agg #[.map (mF (N (Qac p 3++[(s,3)]))),.map (mS (N (Qac p 3++[(s,3)])))],bv,vw] w fun e w'=>∃v,e=.returned v/\ LB w' w0.heap.size v (l0++wL l f (p++[s]))/\ Gr w w' bv v):=hid (fun s Lg bv l0 vw w Q z h3 h4 h5=>by
   rw [<- Qfq];exact Qc3 l w0 Bt c N hT hN hc hlv hbd f (p++[s]) (by simp;omega) (by omega) bv l0 vw w Q z h3 h4 h5)
  obtain⟨W,hW⟩:∃W,w.alloc (.cells #[.map (mF (N (Qac p 3))),.map (mS (N (Qac p 3)))] 45)=W:=⟨_,rfl⟩;have b0:Below w.heap.size w W:=by rw [<- hW];exact zO _ _
  have X0:Bx2 W w.heap.size (.map (mF (N (Qac p 3)))) (.map (mS (N (Qac p 3)))):=by rw [<- hW];exact Bx2.made _ _ _ _
  have zW:W.heap.size=w.heap.size+1:=by rw [<- hW];simp
  have Jr:Below w0.heap.size w0 W:=hb.trans (b0.mono hb.size);have Ji:=hid (Qc1 Bt c N (Mk l l.length) (Qac p 3) W (hT.below Jr) hc);obtain⟨m0,K2⟩:∃u,mF (N (Qac p 3))=u:=⟨_,rfl⟩;obtain⟨m1,Gc⟩:∃u,mS (N (Qac p 3))=u:=⟨_,rfl⟩;rw [K2,Gc] at X0 Ji hW;rw [K2,Gc];have q0:=X0.c0;have q1:=X0.c1;have HX:=hid X0;have Li:=hid b0;have K6:=hid Jr;have HO:=hid (ho.below b0);have J7:=hid (hvw.below b0);have HT:=hid hT;have J5:=hid hN;have Lm:=hid K2;have Ln:=hid hne;have Lq:Hid (∀g,vw.ownBlock=some g ->g<w.heap.size):=hid hvw.lt;have Gm:Hid (∀g,bv.ownBlock=some g ->w0.heap.size<=g/\ g<w.heap.size):=hid ho.lt;have Gg:=hid k2;have J4:=hid hl;have J8:=hid zW;have L6:Hid (w0.heap.size<=w.heap.size):=hid hb.size;clear X0 b0 Jr ho K2 Gc k1 k2 hvw hne hl zW hb hN;go_enter Tryz.func43,Tryz.ntmps43;go_wp2_with fail;try rw [hW]
  clear hW;refine Ji.mono ?_;rintro e w1 ⟨vd,V,rfl,Kl,He,Gx,K3,b1⟩;have Kg:=QiU (p:=p) hlv J5.out Kl He;obtain⟨da,dc,rfl,Lv,Lw,Lb⟩:=Qnv K3;have Lz:V.length<=1000:=by rw [Kg];have:=Qev l p l.length;have:=hbd.len;omega
  have HD:Hid (0<V.length ->∃g,da=some ⟨g,0,none⟩/\ W.heap.size<=g/\ g<w1.heap.size/\∀i,i<V.length ->∃y∈V,V[i]? =some y/\ w1.cell? ⟨g,i*2,none⟩=some (.string y.1)/\ w1.cell? ⟨g,i*2+1,none⟩=some (.int .i64 y.2)):=hid (fun h0=>by
   obtain⟨g,e1,e2,e3,e4⟩:=Lb h0;refine⟨g,e1,e2,e3,fun i hi=> ?_⟩;obtain⟨d,f1,f2,f3⟩:=e4 i hi;exact⟨d,List.mem_of_getElem? f1,f1,f2,f3⟩)
  have J3:Hid (∀y∈V,y.1.size<=40/\ ((y.2=1 \/y.2=2) \/(y.2=3/\ p.length+2<=8))):=hid (fun y hy=>by
   rw [Kg] at hy;obtain⟨j,hj,e⟩:=(Gg y).1 hy;exact⟨QdO (hlv j hj).1 e,Qkn (hlv j hj).1 e⟩)
  have Lp:Hid (kS l p l.length=V):=hid Kg.symm;rw [<- Kg] at J4;have Ll:Hid (∀y∈V,∀w',Below w0.heap.size w0 w' ->(Instr.lookup 42 (.map m0) (.agg #[.string y.1,.int .i64 y.2]) false).run Tryz.prog w'=.ok (.agg #[.map (mF (N (Qac p 3++[y]))),.map (mS (N (Qac p 3++[y])))]) w'):=hid (fun y hy w' hb'=>by
   have hl:=J3 y hy;obtain⟨kl,Jt⟩:=Qhi (s:=y.1) (k:=y.2) (by unfold maxLen;omega) (wfI (by omega) (by omega));have:=(HT.below hb').look (Qac p 3) y Jt;rw [Lm.out] at this;exact this)
  have X1:=HX.below b1 HX.lt;have Lr:=hid X1;have J6:=hid (HO.below b1);have Jh:=hid (J7.below b1);have J2:=hid (K6.trans (b1.mono K6.size));have K4:=hid (Qab Li.out b1);have Jj:Hid (w0.heap.size<=w1.heap.size/\ w.heap.size<w1.heap.size):=hid (by have Q:=J2.size;have z:=b1.size;have h3:=J8.out;omega);clear q0 q1 K3 Kl He Gx Lb Kg b1 Ji X1 HX HO K6 J7;go_wp2_with fail;go_loopw [1,16] (fun b' i wr=>∃(k:Nat),k<=V.length/\ i=.int .i64 k/\ Hid (LB wr w0.heap.size b' (l0++(V.take k).flatMap (gK l f p)))/\ Hid (Gr w1 wr bv b')) (fun _ i _=>V.length - (intOf i).toNat);case atStart=>exact⟨0,Nat.zero_le _,rfl,hid (by simpa using J6.out),hid (Gr.refl _ _)⟩
  case round=>
   clear J6;obtain⟨k,hk,rfl,Ka,Hz⟩:=hrel;by_cases Jv:k<V.length
   ·obtain⟨g,rfl,L8,L9,Lc⟩:=HD (by omega);obtain⟨y,J0,Lh,Ga,Gb⟩:=Lc k Jv;have Gw:some g≠bv.ownBlock:=fun e=>by have Q:=(Gm g e.symm).2;have z:=J8.out;omega
    have Ke:some w.heap.size≠bv.ownBlock:=fun e=>by have:=(Gm _ e.symm).2;omega
    have P:=Hz.g.cell Ga Gw;have c2:=Hz.g.cell Gb Gw;have n0:=Hz.g.cell Lr.c0 Ke;have Jz:=J3 y J0;have Kt:Hid (Below w0.heap.size w0 wr):=hid (J2.trans (Hz.below Jj.1 (fun k hk=>(Gm k hk).1)));have Lo:Hid (QgS wr vw p):=hid (Jh.move Hz.g.size (fun g hg=>Hz.g.block g (by have Q:=Lq g hg;have z:=Jj.2;omega) (fun e=>Ln.out g hg e.symm)));have G1:Hid (∀g,u1.ownBlock=some g ->w0.heap.size<=g/\ g<wr.heap.size):=hid Ka.lt;have Kz:Hid ((V.take (k+1)).flatMap (gK l f p)=(V.take k).flatMap (gK l f p)++gK l f p y):=hid (by rw [List.take_add_one,Lh];simp);have H9:Hid ((l0++(V.take k).flatMap (gK l f p)).length+(gK l f p y).length<=1000000):=hid (by
     have Q:=QhP (gK l f p) V (k+1);rw [Kz.out,List.length_append] at Q;have z:=J4.out;simp only [List.length_append] at z ⊢;omega)
    obtain⟨L0,Jn⟩:∃L0,l0++(V.take k).flatMap (gK l f p)=L0:=⟨_,rfl⟩;have H1:Hid (∀w',Below w0.heap.size w0 w' ->(Instr.lookup 42 (.map m0) (.agg #[.string y.1,.int .i64 y.2]) false).run Tryz.prog w'=.ok (.agg #[.map (mF (N (Qac p 3++[y]))),.map (mS (N (Qac p 3++[y])))]) w'):=hid (fun w' h=>Ll.out y J0 w' h);obtain⟨ls,Kr,Ld,Kh,Le,Kj⟩:∃ls Kr:List Lf,gK l f p y=ls++Kr/\ (∀Hn:List Dt,Hn.Pairwise (fun x y=>Qbh x y<0) ->(∀d,d∈Hn↔Mk l l.length (Qac p 3++[y]) d≠none) ->Hn=ls.map fun x=>((x.r,x.q):Dt))/\ (∀x∈ls,x=⟨p++[y.1],decide (y.2=2),x.r,x.q,x.v⟩/\ Mk l l.length (Qac p 3++[y]) (x.r,x.q)=some x.v/\ (0<=x.r/\ x.r<8)/\ (0<=x.q/\ x.q<=1000000000))/\
      (∀(bv:Value) (l0:List Lf) (vw:Value) (w:World),Below w0.heap.size w0 w ->LB w w0.heap.size bv l0 ->QgS w vw (p++[y.1]) ->(∀g,vw.ownBlock=some g ->bv.ownBlock≠some g) ->l0.length+Kr.length<=1000000 ->Calls Tryz.prog 43 #[.agg #[.map (mF (N (Qac p 3++[y]))),.map (mS (N (Qac p 3++[y])))],bv,vw] w fun e w'=>∃v,e=.returned v/\ LB w' w0.heap.size v (l0++Kr)/\ Gr w w' bv v):=by
     rcases Jz.2 with L7|⟨h3,Lg⟩
     ·have Ko:y.2≠3:=by omega
      refine⟨dsK l p y l.length,[],by unfold gK;rw [if_neg Ko,List.append_nil],fun Hn Q z=>Qf8 hlv Ko Q z,fun x hx=> ?_,fun bv l0 vw w Q z h3 h4 h5=> ?_⟩
      ·have hv:=QfI Ko hbd.dis hx;obtain⟨j,hj,e,rfl⟩:=Qbc.1 hx;have hp:=Qb0 Ko e;refine⟨?_,hv,hbd.rep j hj,hbd.seq j hj⟩;obtain⟨x,hx⟩:∃x,gL l j=x:=⟨_,rfl⟩;rw [hx] at hp ⊢;obtain⟨xp,xf,H,G,xv⟩:=x;have e1:xp=p++[y.1]:=hp.1;have e2:kd xf=y.2:=hp.2;have e3:xf=decide (y.2=2):=by rw [<- e2];cases xf<;>simp [kd]
       rw [<- e1,<- e3]
      ·refine(QeG Bt c N (Mk l l.length) (Qac p 3++[y]) w (HT.below Q) hc (fun u=>Qm3 J5.out p y u Ko) bv vw).mono ?_;rintro e w' ⟨rfl,b⟩;exact⟨bv,rfl,by rw [List.append_nil];exact z.below b,Gr.of_below b⟩
     ·obtain⟨s,Y⟩:=y;have h3:Y=3:=h3;subst h3;refine⟨[],wL l f (p++[s]),by unfold gK;rw [if_pos rfl,List.nil_append],fun Hn Q z=> ?_,fun x hx=>(by cases hx),Lj.out s Lg⟩;exact List.eq_nil_iff_forall_not_mem.2 fun d hd=>(z d).1 hd (Qkx l p s d)
    have Lk:=hid Kh;have Kv:=hid Le;have Kx:=hid Kj;have Kw:Hid (∀w',Below w0.heap.size w0 w' ->∀x∈ls,(Instr.lookup 43 (.map (mS (N (Qac p 3++[y])))) (.agg #[.int .i64 x.r,.int .i64 x.q]) false).run Tryz.prog w'=.ok (.agg #[.string x.v]) w'):=hid (fun w' hb' x hx=>by
     have hv:=Kv x hx;have T':=HT.below hb';cases e:N (Qac p 3++[y]) with
     | none=>have h:=hv.2.1;rw [T'.none' _ e] at h;cases h
     | some x1=>
      obtain⟨kl,Jt⟩:=Qd5 (r:=x.r) (q:=x.q) (wfI (by omega) (by omega)) (wfI (by omega) (by omega));have:=(T'.marks _ x1 e).look QaD Tryz.underlying43 (QhI w') (x:=(x.r,x.q)) Jt;rw [hv.2.1] at this;exact this)
    have Hs:Hid (∀w',Below w0.heap.size w0 w' ->Calls Tryz.prog 70 #[.agg #[.map (mF (N (Qac p 3++[y]))),.map (mS (N (Qac p 3++[y])))]] w' fun e Ho=>∃(v:Value) (V:List Dt),e=.returned v/\ V=(ls.map fun x=>((x.r,x.q):Dt))/\ Ho.ownsRow w'.heap.size 67 2 v V.length (Ds.kRow V)/\ Below w'.heap.size w' Ho):=hid (fun w' hb'=>by
     refine(Ds.sortedDotsC Bt c N (Mk l l.length) (Qac p 3++[y]) w' (HT.below hb') hc).mono ?_;rintro e Ho ⟨v,Hn,rfl,Q,z,_,h4,h5⟩;exact⟨v,Hn,rfl,Lk.out Hn Q z,h4,h5⟩)
    obtain⟨a1,J9⟩:∃a1,mF (N (Qac p 3++[y]))=a1:=⟨_,rfl⟩;obtain⟨C,Jq⟩:∃C,mS (N (Qac p 3++[y]))=C:=⟨_,rfl⟩;rw [J9,Jq] at H1 Kx Hs;rw [Jq] at Kw;rw [Ld] at Kz H9;rw [Jn] at H9 Ka;have G5:Hid (l0++(V.take (k+1)).flatMap (gK l f p)=L0++(ls++Kr)):=hid (by rw [Kz.out,<- Jn];simp);obtain⟨s,Y⟩:=y;dsimp only at P c2 Jz H1 Kw Kx Kv;have L5:Hid (s.size<=40):=hid Jz.1;obtain⟨A,Jo⟩:∃A,wr.alloc (.cells #[.string s,.int .i64 Y] 88)=A:=⟨_,rfl⟩;have D1:Bx2 A wr.heap.size (.string s) (.int .i64 Y):=by rw [<- Jo];exact Bx2.made _ _ _ _
    have K1:Below wr.heap.size wr A:=by rw [<- Jo];exact zO _ _
    obtain⟨E,Jp⟩:∃E,A.alloc (.cells #[.map a1,.map C] 45)=E:=⟨_,rfl⟩;have Jk:Below A.heap.size A E:=by rw [<- Jp];exact zO _ _
    have Hi:Hid (Bx2 E A.heap.size (.map a1) (.map C)):=hid (by rw [<- Jp];exact Bx2.made _ _ _ _);have H8:=hid (D1.below Jk D1.lt);have Ks:=hid (Qab K1 Jk);have H0:Hid (Below w0.heap.size w0 E):=hid (Kt.trans (Ks.mono Kt.size));have Jg:=hid (Lo.below Ks.out);have K0:Hid (wr.heap.size<A.heap.size/\ A.heap.size<E.heap.size):=hid ⟨D1.lt,Hi.lt⟩;have Ku:Hid (∀w',Below E.heap.size E w' ->Calls Tryz.prog 78 #[vw] w' fun e Ho=>∃v,e=.returned v/\ Below w'.heap.size w' Ho/\ Ho.ownsRow w'.heap.size 9 1 v p.length (Qcf p)):=hid (fun w' hb'=>Qna vw p w' (by omega) (Jg.below hb'));have q0:=D1.c0;have q1:=D1.c1;have L3:=(K1.cell (p:=⟨w.heap.size,0,none⟩) (by have Q:=Jj.2;have z:=Hz.g.size;show w.heap.size<wr.heap.size;omega)).trans n0;have L1:=H1 A (Kt.trans (K1.mono Kt.size));have H5:Hid (∀w',Below E.heap.size E w' ->w'.cell? ⟨wr.heap.size,0,none⟩=some (.string s)):=hid (fun w' b=>(H8.below b H8.lt).c0);clear D1 K1 Jk Ga Gb Lc J0 Lh Ke Gw Le Kh Kj Ld Jn J9 Jq H1 Kz;go_wp2_with fail;refine zR (S:=fun w'=>w'.cell? ⟨wr.heap.size,0,none⟩=some (.string s)) (H5 _ zI.drew) (fun qh=> ?_);clear q0 q1 L3 L1 n0 P c2 Jo Jp;refine tZ 0 24 ?_;refine tZ 2 26 ?_;refine tZ 3 27 ?_;refine QaO (i:=1) (j:=4) (d:=some 25) (d':=some 28) (by kernel_rfl) (by kernel_rfl) (by kernel_rfl) ?_ ?_
    ·
     intro o ho K3 K M;simp only [gZa,gZb,gZc,gZd] at ho;subst ho;go_simp;refine(Ku _ zI.drew).mono ?_;rintro e w3 ⟨v3,rfl,b3,o3⟩;have H6:Below E.heap.size E w3:=⟨b3.os,b3.tape,b3.output,b3.size,b3.block⟩;refine M.out _ _ (H5 _ H6) (fun qh=> ?_);clear M K;try simp only [zP]
     refine cZ 4 ?_;intro K M;go_simp;have Ht:Below E.heap.size E (w3.alloc (.cells #[.string s] 9)):=H6.alloc H6.size _;refine M.out _ _ (H5 _ Ht) (fun qh=> ?_);clear M K;try simp only [zP]
     have o4:(w3.alloc (.cells #[.string s] 9)).ownsRow E.heap.size 9 1 v3 p.length (Qcf p):=World.ownsRow.alloc o3 _;obtain⟨X,Hd,w5,Hc,o5,g5,Jw⟩:=Ql1 o4 Ht.size (by omega) s w3.heap.size (by simp);have Gq:Below E.heap.size E w5:=Ht.grown g5 Ht.size (fun k e=>(World.ownsRow.lt o4 k e).1);refine cZ 5 ?_;intro K M;refine QaX _ _ _ _ rfl Hc (by rfl) (by rfl) rfl ?_;refine M.out _ _ (H5 _ Gq) (fun qh=> ?_);clear M K;try simp only [zP]
     refine tZ 6 10 ?_;refine zD ?_;have H2:=hid o5;have Hk:=hid Gq;clear qh b3 H6 Ht o3 o4 o5 g5 Gq Hc H5 Ku Jw;obtain⟨bu,Js⟩:∃b,b=u1:=⟨_,rfl⟩;subst Js;obtain⟨O,Jx⟩:∃b,b=wr:=⟨_,rfl⟩;subst Jx;have Hg:Hid (Below w0.heap.size w0 w5):=hid (H0.trans (Hk.mono H0.size));have K5:=Hi.below Hk.out Hi.lt;have Gz:=K5.c0;have G0:=K5.c1;have Gi:=hid K5;have Gf:=hid (H8.below Hk.out H8.lt);have Jf:Hid (E.heap.size<=X/\ X<w5.heap.size):=hid (World.ownsRow.lt H2.out X rfl);clear K5;go_wp2_with fail;refine(Hs w5 Hg.out).mono ?_;rintro e Z ⟨L4,Hn,rfl,He,Hy,b6⟩;obtain⟨Jm,Lu,rfl,Hv,Kf,Hw⟩:=Qnu Hy;have Kk:Hn.length=ls.length:=by rw [He];simp
     have K8:Hid (0<ls.length ->∃L,Jm=some ⟨L,0,none⟩/\ w5.heap.size<=L/\ L<Z.heap.size/\∀i,i<ls.length ->∃x∈ls,ls[i]? =some x/\ Z.cell? ⟨L,i*2,none⟩=some (.int .i64 x.r)/\ Z.cell? ⟨L,i*2+1,none⟩=some (.int .i64 x.q)):=hid (fun h0=>by
      obtain⟨L,e1,e2,e3,e4⟩:=Hw (by omega);refine⟨L,e1,e2,e3,fun i hi=> ?_⟩;obtain⟨d,f1,f2,f3⟩:=e4 i (by omega);rw [He] at f1;simp only [List.getElem?_map,Option.map_eq_some_iff] at f1;obtain⟨x,f4,f5⟩:=f1;subst f5;exact⟨x,List.mem_of_getElem? f4,f4,f2,f3⟩)
     rw [Kk] at Hv ⊢;have Ju:ls.length<=1000000:=by have:=H9.out;simp only [List.length_append] at this;omega
     have G2:=Qab Hk.out b6;have Gd:=Qab Ks.out G2;have Ge:=hid Gd;have G9:Hid (LB Z w0.heap.size bu L0):=hid (Ka.below Gd);have Gn:Hid (Z.ownsRow E.heap.size 9 1 (.slice (some ⟨X,0,none⟩) (p.length+1) Hd) (p.length+1) (Qcf (p++[s]))):=hid (Qaq H2.out (fun g hg=>b6.block g (World.ownsRow.lt H2.out g hg).2));have K7:=hid (Gf.below b6 Gf.lt);have G7:=hid (Gi.below b6 Gi.lt);have Hp:Hid (Below w0.heap.size w0 Z):=hid (Hg.trans (b6.mono Hg.size));have U:Hid (O.heap.size<A.heap.size/\ A.heap.size<E.heap.size/\ E.heap.size<=w5.heap.size/\ w5.heap.size<=Z.heap.size/\ w0.heap.size<=Z.heap.size):=hid ⟨K0.1,K0.2,Hk.size,b6.size,Hp.size⟩;clear Hy Hw He Kk b6 G2 Gd Gz G0 Gf Gi H2 Hk Hi H8 Hs;go_wp2_with fail;go_loopw [1,33] (fun b' i wr=>∃(t:Nat),t<=ls.length/\ i=.int .i64 t/\ Hid (LB wr w0.heap.size b' (L0++ls.take t))/\ Hid (Gr Z wr bu b')) (fun _ i _=>ls.length - (intOf i).toNat);case atStart=>exact⟨0,Nat.zero_le _,rfl,hid (by simpa using G9.out),hid (Gr.refl _ _)⟩
     case round=>
      clear G9;obtain⟨t,ht,rfl,H3,I⟩:=hrel;have Hm:Hid (∀b,O.heap.size<=b ->some b≠bu.ownBlock):=hid (fun b hb e=>by have:=(G1 b e.symm).2;omega);have Hb:Hid (∀b,((O.heap.size<=b/\ b<Z.heap.size) \/wr.heap.size<=b) ->some b≠u1.ownBlock):=hid (fun b hb e=>by
       have Q:=(H3.lt b e.symm).2;rcases I.l with z|⟨j,z,h3⟩
       ·rw [z] at e;have:=(G1 b e.symm).2;have:=U.out;omega
       ·rw [z] at e;have e:b=j:=by injection e
        omega)
      have L2:=I.g.size;have Gg:=hid (I.g.cell G7.c0 (Hm _ (by have:=U.out;show O.heap.size<=A.heap.size;omega)));have Gh:=hid (I.g.cell G7.c1 (Hm _ (by have:=U.out;show O.heap.size<=A.heap.size;omega)));have G6:=hid (I.g.cell K7.c1 (Hm _ zL));have Hh:Hid (Below w0.heap.size w0 wr):=hid (Hp.trans (I.below U.2.2.2.2 (fun k hk=>(G1 k hk).1)));have H4:Hid (wr.ownsRow E.heap.size 9 1 (.slice (some ⟨X,0,none⟩) (p.length+1) Hd) (p.length+1) (Qcf (p++[s]))):=hid (Qaq Gn.out (fun g hg=>I.g.block g (World.ownsRow.lt Gn.out g hg).2 (Hm g (by have Q:=(World.ownsRow.lt Gn.out g hg).1;have z:=U.out;omega))));by_cases Gx:t<ls.length
      ·obtain⟨L,rfl,Gu,Gv,Hx⟩:=K8 (by omega);obtain⟨x,Gy,Kn,Ga,Gb⟩:=Hx t Gx;have P:=I.g.cell Ga (Hm L (by have z:=U.out;show O.heap.size<=L;omega));have c2:=I.g.cell Gb (Hm L (by have z:=U.out;show O.heap.size<=L;omega));have H7:=Kv x Gy;have Gl:Hid (∀w',Below w0.heap.size w0 w' ->(Instr.lookup 43 (.map C) (.agg #[.int .i64 x.r,.int .i64 x.q]) false).run Tryz.prog w'=.ok (.agg #[.string x.v]) w'):=hid (fun w' h=>Kw.out w' h x Gy);have Gp:Hid (ls.take (t+1)=ls.take t++[x]):=hid (by rw [List.take_add_one,Kn];rfl);obtain⟨xp,xf,H,G,xv⟩:=x;dsimp only at P c2 H7 Gl;have Jy:xp=p++[s]:=congrArg Lf.p H7.1;have Km:xf=decide (Y=2):=congrArg Lf.fl H7.1;subst Jy;have Ly:(Y==2)=xf:=by rw [Km];rfl
       have Lx:∀w:World,(Instr.field 82 (.agg #[.string xv]) 0).run Tryz.prog w=.ok (.string xv) w:=fun w=>by kernel_rfl
       obtain⟨m,Gs⟩:∃m,wr.alloc (.cells #[.int .i64 H,.int .i64 G] 67)=m:=⟨_,rfl⟩;have Hj:Below wr.heap.size wr m:=by rw [<- Gs];exact zO _ _
       have DV:Bx2 m wr.heap.size (.int .i64 H) (.int .i64 G):=by rw [<- Gs];exact Bx2.made _ _ _ _
       have Hr:=hid DV;have Hl:Hid (Below w0.heap.size w0 m):=hid (Hh.trans (Hj.mono Hh.size));have G8:=hid (H3.below Hj);have Kb:=hid (Qcx (Qaq H4.out (fun g hg=>Hj.block g (World.ownsRow.lt H4.out g hg).2)) (show (p++[s]).length=p.length+1 by simp));have Hq:Hid (∀w',Below m.heap.size m w' ->Calls Tryz.prog 78 #[.slice (some ⟨X,0,none⟩) (p.length+1) Hd] w' fun e Ho=>∃q cap,e=.returned (.slice (some ⟨q,0,none⟩) (p.length+1) cap)/\ Below w'.heap.size w' Ho/\ Ho.ownsRow w'.heap.size 9 1 (.slice (some ⟨q,0,none⟩) (p.length+1) cap) (p.length+1) (Qcf (p++[s]))):=hid (fun w' hb'=>by
        have hw:=Kb.2.same (hb'.block X Kb.2.lt);exact Qi0 X (p.length+1) Hd (p++[s]) w' (by simp) (by omega) hw.lt (fun t ht=>hw.cell ht))
       have G3:Hid (∀B q7 D,Below m.heap.size m B ->B.ownsRow m.heap.size 9 1 (.slice (some ⟨q7,0,none⟩) (p.length+1) D) (p.length+1) (Qcf (p++[s])) ->∃q' Ha n' w3,(Builtin.append_ #[23,23] 23 #[u1,.slice (some ⟨B.heap.size,0,none⟩) 1 1]).run Tryz.prog (B.alloc (.cells #[.slice (some ⟨q7,0,none⟩) (p.length+1) D,.bool xf,.int .i64 H,.int .i64 G,.string xv] 69))=.ok (.slice (some ⟨q',0,none⟩) n' Ha) w3/\
         LB w3 w0.heap.size (.slice (some ⟨q',0,none⟩) n' Ha) (L0++ls.take (t+1))/\ Gr B w3 u1 (.slice (some ⟨q',0,none⟩) n' Ha)):=hid (fun B q7 D b7 o7=>by
        have Ki:=World.ownsRow.lt o7 q7 rfl;have Gt:p.length+1<=D/\ D<=9223372036854775807:=by
         rcases o7.2 with ⟨h0,_⟩|⟨g',Ha,Lt,hv,Kd,hb,Q,z,h3,h4⟩
         ·cases h0
         ·injection hv with e1 e2 e3;unfold maxLen at z;omega
        obtain⟨q',Ha,w3,e1,e2,e3⟩:=G8.app b7 Hl.size (by have Q:=H9.out;simp only [List.length_append,List.length_take] at Q ⊢;omega) ⟨p++[s],xf,H,G,xv⟩ q7 D Ki.1 Ki.2 (by simpa using (Qcx o7 (show (p++[s]).length=p.length+1 by simp)).2) (by simpa using Gt);refine⟨q',Ha,_,w3,by simpa using e1,?_,e3⟩;rw [Gp.out,<- List.append_assoc];exact e2)
       have Go:Hid (∀w',Below w0.heap.size w0 w' ->w'.cell? ⟨O.heap.size,1,none⟩=some (.int .i64 Y) ->w'.cell? ⟨A.heap.size,1,none⟩=some (.map C) ->w'.cell? ⟨wr.heap.size,0,none⟩=some (.int .i64 H) ->w'.cell? ⟨wr.heap.size,1,none⟩=some (.int .i64 G) ->(w'.cell? ⟨O.heap.size,1,none⟩=some (.int .i64 Y)/\ w'.cell? ⟨A.heap.size,1,none⟩=some (.map C)/\ w'.cell? ⟨wr.heap.size,0,none⟩=some (.int .i64 H)/\ w'.cell? ⟨wr.heap.size,1,none⟩=some (.int .i64 G)/\ (Instr.lookup 43 (.map C) (.agg #[.int .i64 H,.int .i64 G]) false).run Tryz.prog w'=.ok (.agg #[.string xv]) w')):=hid (fun w' Q z h3 h4 h5=>⟨z,h3,h4,h5,Gl.out w' Q⟩);have Gk:=hid ((Hj.cell (p:=⟨O.heap.size,1,none⟩) (by have:=U.out;show O.heap.size<wr.heap.size;omega)).trans G6.out);have Gj:=hid ((Hj.cell (p:=⟨A.heap.size,1,none⟩) (by have:=U.out;show A.heap.size<wr.heap.size;omega)).trans Gh.out);have Hf:Hid (∀w',Below m.heap.size m w' ->(w'.cell? ⟨O.heap.size,1,none⟩=some (.int .i64 Y)/\ w'.cell? ⟨A.heap.size,1,none⟩=some (.map C)/\ w'.cell? ⟨wr.heap.size,0,none⟩=some (.int .i64 H)/\ w'.cell? ⟨wr.heap.size,1,none⟩=some (.int .i64 G)/\ (Instr.lookup 43 (.map C) (.agg #[.int .i64 H,.int .i64 G]) false).run Tryz.prog w'=.ok (.agg #[.string xv]) w')):=hid (fun w' b=>by
        have hz:=Hr.lt;have h6:=U.out;exact Go w' (Hl.trans (b.mono Hl.size)) ((b.cell (p:=⟨O.heap.size,1,none⟩) (by show O.heap.size<m.heap.size;omega)).trans Gk.out) ((b.cell (p:=⟨A.heap.size,1,none⟩) (by show A.heap.size<m.heap.size;omega)).trans Gj.out) (Hr.below b Hr.lt).c0 (Hr.below b Hr.lt).c1)
       have Jb:Hid (Gr Z m bu u1):=hid (I.trans (Gr.of_below Hj));have Ls:Hid (wr.heap.size<m.heap.size):=hid DV.lt;clear Hj DV Ga Gb Hx Gy Kn H7 H3 I Km Gl G6 Gh Gg H4 Gu Gv;go_wp2_with fail;refine zR (S:=fun w'=>w'.cell? ⟨O.heap.size,1,none⟩=some (.int .i64 Y)/\ w'.cell? ⟨A.heap.size,1,none⟩=some (.map C)/\ w'.cell? ⟨wr.heap.size,0,none⟩=some (.int .i64 H)/\ w'.cell? ⟨wr.heap.size,1,none⟩=some (.int .i64 G)/\ (Instr.lookup 43 (.map C) (.agg #[.int .i64 H,.int .i64 G]) false).run Tryz.prog w'=.ok (.agg #[.string xv]) w') (Hf _ zI.drew) (fun qh=> ?_);clear P c2 Gs;refine tZ 0 37 ?_;refine tZ 1 38 ?_;refine tZ 3 40 ?_;refine tZ 4 41 ?_;refine tZ 5 42 ?_;refine tZ 6 43 ?_;refine tZ 7 44 ?_;refine tZ 8 45 ?_;refine tZ 9 46 ?_;refine tZ 10 47 ?_;refine tZ 11 48 ?_;refine cZ 2 ?_;intro K M;go_simp;refine(Hq _ zI.drew).mono ?_;rintro e B ⟨q7,D,rfl,b7,o7⟩;have J:Below m.heap.size m B:=⟨b7.os,b7.tape,b7.output,b7.size,b7.block⟩;refine M.out _ _ (Hf _ J) (fun qh=> ?_);clear M K;try simp only [zP]
       refine tZ 12 49 ?_;refine cZ 13 ?_;intro K M;go_simp;obtain⟨q8,Jl,n8,w8,Hc,Kp,g8⟩:=G3 B q7 D J o7;have Kc:Below m.heap.size m (B.alloc (.cells #[.slice (some ⟨q7,0,none⟩) (p.length+1) D,.bool xf,.int .i64 H,.int .i64 G,.string xv] 69)):=J.alloc J.size _;refine M.out _ _ (Hf _ Kc) (fun qh=> ?_);clear M K;try simp only [zP]
       refine cZ 14 ?_;intro K M;refine QaX _ _ _ _ rfl Hc (by rfl) (by rfl) rfl ?_;have t1:=(Hf _ J).1;have t2:=(Hf _ J).2.1;have t3:=(Hf _ J).2.2.1;have t4:=(Hf _ J).2.2.2.1;have Hu:Below w0.heap.size w0 w8:=(Hl.trans (J.mono Hl.size)).trans (g8.below (by have Q:=Hl.size;have z:=J.size;omega) (fun k hk=>(G8.lt k hk).1));refine M.out _ _ (Go _ Hu (g8.g.cell t1 (Hb _ (.inl ⟨Nat.le_refl _,by have:=U.out;show O.heap.size<Z.heap.size;omega⟩))) (g8.g.cell t2 (Hb _ (.inl ⟨by have:=U.out;show O.heap.size<=A.heap.size;omega,by have:=U.out;show A.heap.size<Z.heap.size;omega⟩))) (g8.g.cell t3 (Hb _ (.inr zL))) (g8.g.cell t4 (Hb _ (.inr zL)))) (fun qh=> ?_);clear M K;try simp only [zP]
       refine tZ 15 1 ?_;refine zD ?_;have Jc:=hid Kp;have K9:=hid ((Jb.trans (Gr.of_below J)).trans g8);clear qh b7 J Kc o7 Hc Kp g8 t1 t2 t3 t4 Hu Hf Go G3 Hq;go_wp2_with fail;go_roundw;case rel=>exact⟨t+1,Gx,by go_num,Jc,K9⟩
       case measure=>simp [intOf];omega
      ·obtain rfl:t=ls.length:=by omega
       have Je:Hid (LB wr w0.heap.size u1 (L0++ls)):=hid (by have:=H3.out;rw [List.take_length] at this;exact this);have Gz:=Gg.out;have G0:=Gh.out;have G4:=hid (Kx u1 (L0++ls) (.slice (some ⟨X,0,none⟩) (p.length+1) Hd) wr Hh.out Je.out (Qcx H4.out (show (p++[s]).length=p.length+1 by simp)).1 (fun g hg e=>by
        have e1:X=g:=by simpa [Value.ownBlock] using hg
        subst e1;exact Hb X (.inl (by have Q:=Jf.out;have z:=U.out;omega)) e.symm) (by have:=H9.out;simp only [List.length_append] at this ⊢;omega))
       go_wp2_with fail;refine G4.mono ?_;rintro e w9 ⟨v9,rfl,Kq,g9⟩;have Jd:Hid (LB w9 w0.heap.size v9 (l0++(V.take (k+1)).flatMap (gK l f p))):=hid (by rw [G5.out,<- List.append_assoc];exact Kq);have Ja:Hid (Gr w1 w9 bv v9):=hid (((Hz.trans (Gr.of_below Ge.out)).trans I.out).trans g9);clear Kq g9 G4 Gz G0;go_wp2_with fail;go_roundw;case rel=>exact⟨k+1,Jv,by go_num,Jd,Ja⟩
       case measure=>simp [intOf];omega
    ·
     intro o ho K3 K M;simp only [gZa,gZb,gZc,gZd] at ho;subst ho;go_simp;have H6:Below E.heap.size E (E.drew.alloc (.cells #[.string s] 9)):=(zI.drew).alloc zL _;refine M.out _ _ (H5 _ H6) (fun qh=> ?_);clear M K;try simp only [zP]
     refine cZ 1 ?_;intro K M;go_simp;refine(Ku _ H6).mono ?_;rintro e w4 ⟨v3,rfl,b4,o4⟩;have Ht:Below E.heap.size E w4:=Qab H6 b4;refine M.out _ _ (H5 _ Ht) (fun qh=> ?_);clear M K;try simp only [zP]
     have Gc:=Bx1.made E.drew (.string s) 9;have La:w4.cell? ⟨E.heap.size,0,none⟩=some (.string s):=(b4.cell (p:=⟨E.heap.size,0,none⟩) Gc.lt).trans Gc.c0;have J1:w4.ownsRow E.heap.size 9 1 v3 p.length (Qcf p):=QaV o4 (Nat.le_of_lt Gc.lt);obtain⟨X,Hd,w5,Hc,o5,g5,Jw⟩:=Ql1 J1 Ht.size (by omega) s E.heap.size La;have Gq:Below E.heap.size E w5:=Ht.grown g5 Ht.size (fun k e=>(World.ownsRow.lt J1 k e).1);refine cZ 5 ?_;intro K M;refine QaX _ _ _ _ rfl Hc (by rfl) (by rfl) rfl ?_;refine M.out _ _ (H5 _ Gq) (fun qh=> ?_);clear M K;try simp only [zP]
     refine tZ 6 10 ?_;refine zD ?_;have H2:=hid o5;have Hk:=hid Gq;clear qh H6 Ht b4 Gc La o4 J1 o5 g5 Gq Hc H5 Ku Jw;obtain⟨bu,Js⟩:∃b,b=u1:=⟨_,rfl⟩;subst Js;obtain⟨O,Jx⟩:∃b,b=wr:=⟨_,rfl⟩;subst Jx;have Hg:Hid (Below w0.heap.size w0 w5):=hid (H0.trans (Hk.mono H0.size));have K5:=Hi.below Hk.out Hi.lt;have Gz:=K5.c0;have G0:=K5.c1;have Gi:=hid K5;have Gf:=hid (H8.below Hk.out H8.lt);have Jf:Hid (E.heap.size<=X/\ X<w5.heap.size):=hid (World.ownsRow.lt H2.out X rfl);clear K5;go_wp2_with fail;refine(Hs w5 Hg.out).mono ?_;rintro e Z ⟨L4,Hn,rfl,He,Hy,b6⟩;obtain⟨Jm,Lu,rfl,Hv,Kf,Hw⟩:=Qnu Hy;have Kk:Hn.length=ls.length:=by rw [He];simp
     have K8:Hid (0<ls.length ->∃L,Jm=some ⟨L,0,none⟩/\ w5.heap.size<=L/\ L<Z.heap.size/\∀i,i<ls.length ->∃x∈ls,ls[i]? =some x/\ Z.cell? ⟨L,i*2,none⟩=some (.int .i64 x.r)/\ Z.cell? ⟨L,i*2+1,none⟩=some (.int .i64 x.q)):=hid (fun h0=>by
      obtain⟨L,e1,e2,e3,e4⟩:=Hw (by omega);refine⟨L,e1,e2,e3,fun i hi=> ?_⟩;obtain⟨d,f1,f2,f3⟩:=e4 i (by omega);rw [He] at f1;simp only [List.getElem?_map,Option.map_eq_some_iff] at f1;obtain⟨x,f4,f5⟩:=f1;subst f5;exact⟨x,List.mem_of_getElem? f4,f4,f2,f3⟩)
     rw [Kk] at Hv ⊢;have Ju:ls.length<=1000000:=by have:=H9.out;simp only [List.length_append] at this;omega
     have G2:=Qab Hk.out b6;have Gd:=Qab Ks.out G2;have Ge:=hid Gd;have G9:Hid (LB Z w0.heap.size bu L0):=hid (Ka.below Gd);have Gn:Hid (Z.ownsRow E.heap.size 9 1 (.slice (some ⟨X,0,none⟩) (p.length+1) Hd) (p.length+1) (Qcf (p++[s]))):=hid (Qaq H2.out (fun g hg=>b6.block g (World.ownsRow.lt H2.out g hg).2));have K7:=hid (Gf.below b6 Gf.lt);have G7:=hid (Gi.below b6 Gi.lt);have Hp:Hid (Below w0.heap.size w0 Z):=hid (Hg.trans (b6.mono Hg.size));have U:Hid (O.heap.size<A.heap.size/\ A.heap.size<E.heap.size/\ E.heap.size<=w5.heap.size/\ w5.heap.size<=Z.heap.size/\ w0.heap.size<=Z.heap.size):=hid ⟨K0.1,K0.2,Hk.size,b6.size,Hp.size⟩;clear Hy Hw He Kk b6 G2 Gd Gz G0 Gf Gi H2 Hk Hi H8 Hs;go_wp2_with fail;go_loopw [1,33] (fun b' i wr=>∃(t:Nat),t<=ls.length/\ i=.int .i64 t/\ Hid (LB wr w0.heap.size b' (L0++ls.take t))/\ Hid (Gr Z wr bu b')) (fun _ i _=>ls.length - (intOf i).toNat);case atStart=>exact⟨0,Nat.zero_le _,rfl,hid (by simpa using G9.out),hid (Gr.refl _ _)⟩
     case round=>
      clear G9;obtain⟨t,ht,rfl,H3,I⟩:=hrel;have Hm:Hid (∀b,O.heap.size<=b ->some b≠bu.ownBlock):=hid (fun b hb e=>by have:=(G1 b e.symm).2;omega);have Hb:Hid (∀b,((O.heap.size<=b/\ b<Z.heap.size) \/wr.heap.size<=b) ->some b≠u1.ownBlock):=hid (fun b hb e=>by
       have Q:=(H3.lt b e.symm).2;rcases I.l with z|⟨j,z,h3⟩
       ·rw [z] at e;have:=(G1 b e.symm).2;have:=U.out;omega
       ·rw [z] at e;have e:b=j:=by injection e
        omega)
      have L2:=I.g.size;have Gg:=hid (I.g.cell G7.c0 (Hm _ (by have:=U.out;show O.heap.size<=A.heap.size;omega)));have Gh:=hid (I.g.cell G7.c1 (Hm _ (by have:=U.out;show O.heap.size<=A.heap.size;omega)));have G6:=hid (I.g.cell K7.c1 (Hm _ zL));have Hh:Hid (Below w0.heap.size w0 wr):=hid (Hp.trans (I.below U.2.2.2.2 (fun k hk=>(G1 k hk).1)));have H4:Hid (wr.ownsRow E.heap.size 9 1 (.slice (some ⟨X,0,none⟩) (p.length+1) Hd) (p.length+1) (Qcf (p++[s]))):=hid (Qaq Gn.out (fun g hg=>I.g.block g (World.ownsRow.lt Gn.out g hg).2 (Hm g (by have Q:=(World.ownsRow.lt Gn.out g hg).1;have z:=U.out;omega))));by_cases Gx:t<ls.length
      ·obtain⟨L,rfl,Gu,Gv,Hx⟩:=K8 (by omega);obtain⟨x,Gy,Kn,Ga,Gb⟩:=Hx t Gx;have P:=I.g.cell Ga (Hm L (by have z:=U.out;show O.heap.size<=L;omega));have c2:=I.g.cell Gb (Hm L (by have z:=U.out;show O.heap.size<=L;omega));have H7:=Kv x Gy;have Gl:Hid (∀w',Below w0.heap.size w0 w' ->(Instr.lookup 43 (.map C) (.agg #[.int .i64 x.r,.int .i64 x.q]) false).run Tryz.prog w'=.ok (.agg #[.string x.v]) w'):=hid (fun w' h=>Kw.out w' h x Gy);have Gp:Hid (ls.take (t+1)=ls.take t++[x]):=hid (by rw [List.take_add_one,Kn];rfl);obtain⟨xp,xf,H,G,xv⟩:=x;dsimp only at P c2 H7 Gl;have Jy:xp=p++[s]:=congrArg Lf.p H7.1;have Km:xf=decide (Y=2):=congrArg Lf.fl H7.1;subst Jy;have Ly:(Y==2)=xf:=by rw [Km];rfl
       have Lx:∀w:World,(Instr.field 82 (.agg #[.string xv]) 0).run Tryz.prog w=.ok (.string xv) w:=fun w=>by kernel_rfl
       obtain⟨m,Gs⟩:∃m,wr.alloc (.cells #[.int .i64 H,.int .i64 G] 67)=m:=⟨_,rfl⟩;have Hj:Below wr.heap.size wr m:=by rw [<- Gs];exact zO _ _
       have DV:Bx2 m wr.heap.size (.int .i64 H) (.int .i64 G):=by rw [<- Gs];exact Bx2.made _ _ _ _
       have Hr:=hid DV;have Hl:Hid (Below w0.heap.size w0 m):=hid (Hh.trans (Hj.mono Hh.size));have G8:=hid (H3.below Hj);have Kb:=hid (Qcx (Qaq H4.out (fun g hg=>Hj.block g (World.ownsRow.lt H4.out g hg).2)) (show (p++[s]).length=p.length+1 by simp));have Hq:Hid (∀w',Below m.heap.size m w' ->Calls Tryz.prog 78 #[.slice (some ⟨X,0,none⟩) (p.length+1) Hd] w' fun e Ho=>∃q cap,e=.returned (.slice (some ⟨q,0,none⟩) (p.length+1) cap)/\ Below w'.heap.size w' Ho/\ Ho.ownsRow w'.heap.size 9 1 (.slice (some ⟨q,0,none⟩) (p.length+1) cap) (p.length+1) (Qcf (p++[s]))):=hid (fun w' hb'=>by
        have hw:=Kb.2.same (hb'.block X Kb.2.lt);exact Qi0 X (p.length+1) Hd (p++[s]) w' (by simp) (by omega) hw.lt (fun t ht=>hw.cell ht))
       have G3:Hid (∀B q7 D,Below m.heap.size m B ->B.ownsRow m.heap.size 9 1 (.slice (some ⟨q7,0,none⟩) (p.length+1) D) (p.length+1) (Qcf (p++[s])) ->∃q' Ha n' w3,(Builtin.append_ #[23,23] 23 #[u1,.slice (some ⟨B.heap.size,0,none⟩) 1 1]).run Tryz.prog (B.alloc (.cells #[.slice (some ⟨q7,0,none⟩) (p.length+1) D,.bool xf,.int .i64 H,.int .i64 G,.string xv] 69))=.ok (.slice (some ⟨q',0,none⟩) n' Ha) w3/\
         LB w3 w0.heap.size (.slice (some ⟨q',0,none⟩) n' Ha) (L0++ls.take (t+1))/\ Gr B w3 u1 (.slice (some ⟨q',0,none⟩) n' Ha)):=hid (fun B q7 D b7 o7=>by
        have Ki:=World.ownsRow.lt o7 q7 rfl;have Gt:p.length+1<=D/\ D<=9223372036854775807:=by
         rcases o7.2 with ⟨h0,_⟩|⟨g',Ha,Lt,hv,Kd,hb,Q,z,h3,h4⟩
         ·cases h0
         ·injection hv with e1 e2 e3;unfold maxLen at z;omega
        obtain⟨q',Ha,w3,e1,e2,e3⟩:=G8.app b7 Hl.size (by have Q:=H9.out;simp only [List.length_append,List.length_take] at Q ⊢;omega) ⟨p++[s],xf,H,G,xv⟩ q7 D Ki.1 Ki.2 (by simpa using (Qcx o7 (show (p++[s]).length=p.length+1 by simp)).2) (by simpa using Gt);refine⟨q',Ha,_,w3,by simpa using e1,?_,e3⟩;rw [Gp.out,<- List.append_assoc];exact e2)
       have Go:Hid (∀w',Below w0.heap.size w0 w' ->w'.cell? ⟨O.heap.size,1,none⟩=some (.int .i64 Y) ->w'.cell? ⟨A.heap.size,1,none⟩=some (.map C) ->w'.cell? ⟨wr.heap.size,0,none⟩=some (.int .i64 H) ->w'.cell? ⟨wr.heap.size,1,none⟩=some (.int .i64 G) ->(w'.cell? ⟨O.heap.size,1,none⟩=some (.int .i64 Y)/\ w'.cell? ⟨A.heap.size,1,none⟩=some (.map C)/\ w'.cell? ⟨wr.heap.size,0,none⟩=some (.int .i64 H)/\ w'.cell? ⟨wr.heap.size,1,none⟩=some (.int .i64 G)/\ (Instr.lookup 43 (.map C) (.agg #[.int .i64 H,.int .i64 G]) false).run Tryz.prog w'=.ok (.agg #[.string xv]) w')):=hid (fun w' Q z h3 h4 h5=>⟨z,h3,h4,h5,Gl.out w' Q⟩);have Gk:=hid ((Hj.cell (p:=⟨O.heap.size,1,none⟩) (by have:=U.out;show O.heap.size<wr.heap.size;omega)).trans G6.out);have Gj:=hid ((Hj.cell (p:=⟨A.heap.size,1,none⟩) (by have:=U.out;show A.heap.size<wr.heap.size;omega)).trans Gh.out);have Hf:Hid (∀w',Below m.heap.size m w' ->(w'.cell? ⟨O.heap.size,1,none⟩=some (.int .i64 Y)/\ w'.cell? ⟨A.heap.size,1,none⟩=some (.map C)/\ w'.cell? ⟨wr.heap.size,0,none⟩=some (.int .i64 H)/\ w'.cell? ⟨wr.heap.size,1,none⟩=some (.int .i64 G)/\ (Instr.lookup 43 (.map C) (.agg #[.int .i64 H,.int .i64 G]) false).run Tryz.prog w'=.ok (.agg #[.string xv]) w')):=hid (fun w' b=>by
        have hz:=Hr.lt;have h6:=U.out;exact Go w' (Hl.trans (b.mono Hl.size)) ((b.cell (p:=⟨O.heap.size,1,none⟩) (by show O.heap.size<m.heap.size;omega)).trans Gk.out) ((b.cell (p:=⟨A.heap.size,1,none⟩) (by show A.heap.size<m.heap.size;omega)).trans Gj.out) (Hr.below b Hr.lt).c0 (Hr.below b Hr.lt).c1)
       have Jb:Hid (Gr Z m bu u1):=hid (I.trans (Gr.of_below Hj));have Ls:Hid (wr.heap.size<m.heap.size):=hid DV.lt;clear Hj DV Ga Gb Hx Gy Kn H7 H3 I Km Gl G6 Gh Gg H4 Gu Gv;go_wp2_with fail;refine zR (S:=fun w'=>w'.cell? ⟨O.heap.size,1,none⟩=some (.int .i64 Y)/\ w'.cell? ⟨A.heap.size,1,none⟩=some (.map C)/\ w'.cell? ⟨wr.heap.size,0,none⟩=some (.int .i64 H)/\ w'.cell? ⟨wr.heap.size,1,none⟩=some (.int .i64 G)/\ (Instr.lookup 43 (.map C) (.agg #[.int .i64 H,.int .i64 G]) false).run Tryz.prog w'=.ok (.agg #[.string xv]) w') (Hf _ zI.drew) (fun qh=> ?_);clear P c2 Gs;refine tZ 0 37 ?_;refine tZ 1 38 ?_;refine tZ 3 40 ?_;refine tZ 4 41 ?_;refine tZ 5 42 ?_;refine tZ 6 43 ?_;refine tZ 7 44 ?_;refine tZ 8 45 ?_;refine tZ 9 46 ?_;refine tZ 10 47 ?_;refine tZ 11 48 ?_;refine cZ 2 ?_;intro K M;go_simp;refine(Hq _ zI.drew).mono ?_;rintro e B ⟨q7,D,rfl,b7,o7⟩;have J:Below m.heap.size m B:=⟨b7.os,b7.tape,b7.output,b7.size,b7.block⟩;refine M.out _ _ (Hf _ J) (fun qh=> ?_);clear M K;try simp only [zP]
       refine tZ 12 49 ?_;refine cZ 13 ?_;intro K M;go_simp;obtain⟨q8,Jl,n8,w8,Hc,Kp,g8⟩:=G3 B q7 D J o7;have Kc:Below m.heap.size m (B.alloc (.cells #[.slice (some ⟨q7,0,none⟩) (p.length+1) D,.bool xf,.int .i64 H,.int .i64 G,.string xv] 69)):=J.alloc J.size _;refine M.out _ _ (Hf _ Kc) (fun qh=> ?_);clear M K;try simp only [zP]
       refine cZ 14 ?_;intro K M;refine QaX _ _ _ _ rfl Hc (by rfl) (by rfl) rfl ?_;have t1:=(Hf _ J).1;have t2:=(Hf _ J).2.1;have t3:=(Hf _ J).2.2.1;have t4:=(Hf _ J).2.2.2.1;have Hu:Below w0.heap.size w0 w8:=(Hl.trans (J.mono Hl.size)).trans (g8.below (by have Q:=Hl.size;have z:=J.size;omega) (fun k hk=>(G8.lt k hk).1));refine M.out _ _ (Go _ Hu (g8.g.cell t1 (Hb _ (.inl ⟨Nat.le_refl _,by have:=U.out;show O.heap.size<Z.heap.size;omega⟩))) (g8.g.cell t2 (Hb _ (.inl ⟨by have:=U.out;show O.heap.size<=A.heap.size;omega,by have:=U.out;show A.heap.size<Z.heap.size;omega⟩))) (g8.g.cell t3 (Hb _ (.inr zL))) (g8.g.cell t4 (Hb _ (.inr zL)))) (fun qh=> ?_);clear M K;try simp only [zP]
       refine tZ 15 1 ?_;refine zD ?_;have Jc:=hid Kp;have K9:=hid ((Jb.trans (Gr.of_below J)).trans g8);clear qh b7 J Kc o7 Hc Kp g8 t1 t2 t3 t4 Hu Hf Go G3 Hq;go_wp2_with fail;go_roundw;case rel=>exact⟨t+1,Gx,by go_num,Jc,K9⟩
       case measure=>simp [intOf];omega
      ·obtain rfl:t=ls.length:=by omega
       have Je:Hid (LB wr w0.heap.size u1 (L0++ls)):=hid (by have:=H3.out;rw [List.take_length] at this;exact this);have Gz:=Gg.out;have G0:=Gh.out;have G4:=hid (Kx u1 (L0++ls) (.slice (some ⟨X,0,none⟩) (p.length+1) Hd) wr Hh.out Je.out (Qcx H4.out (show (p++[s]).length=p.length+1 by simp)).1 (fun g hg e=>by
        have e1:X=g:=by simpa [Value.ownBlock] using hg
        subst e1;exact Hb X (.inl (by have Q:=Jf.out;have z:=U.out;omega)) e.symm) (by have:=H9.out;simp only [List.length_append] at this ⊢;omega))
       go_wp2_with fail;refine G4.mono ?_;rintro e w9 ⟨v9,rfl,Kq,g9⟩;have Jd:Hid (LB w9 w0.heap.size v9 (l0++(V.take (k+1)).flatMap (gK l f p))):=hid (by rw [G5.out,<- List.append_assoc];exact Kq);have Ja:Hid (Gr w1 w9 bv v9):=hid (((Hz.trans (Gr.of_below Ge.out)).trans I.out).trans g9);clear Kq g9 G4 Gz G0;go_wp2_with fail;go_roundw;case rel=>exact⟨k+1,Jv,by go_num,Jd,Ja⟩
       case measure=>simp [intOf];omega
   ·obtain rfl:k=V.length:=by omega
    have HF:Hid (l0++(V.take V.length).flatMap (gK l f p)=l0++(kS l p l.length).flatMap (gK l f p)):=hid (by rw [List.take_length,Lp.out]);go_wp2_with fail;go_ret;exact⟨_,rfl,by rw [<- HF.out];exact Ka.out,(Gr.of_below (b:=bv) K4.out).trans Hz.out⟩
open Go.Maps
def LvJ (w:World)(z0:Nat×Nat)(bd:Nat)(J:List Lf)(ul:List Rn):Prop:=∃N B c n D G L,JF w B J [] N c z0/\ c<=1048576/\ Qdk w bd n D G L/\ Qdm L 8=ul/\ (∀r,L r≠[] ->0<=r/\ r<8)/\ (∀r,(L r).length<=4000)
theorem LvJ.below {w w':World}{z0:Nat×Nat}{bd:Nat}{J:List Lf}{ul:List Rn}(h:LvJ w z0 bd J ul)(hb:Below w.heap.size w w'):LvJ w' z0 bd J ul:=by
 obtain⟨N,B,c,n,D,G,L,j,k,m,q⟩:=h;exact⟨N,B,c,n,D,G,L,⟨j.tre.below hb,j.root,j.there⟩,k,m.below hb,q⟩
theorem Bx3.far {w w':World}{b t:Nat}{v0 v1 v2:Value}(h:Bx3 w b v0 v1 v2)(hg:w.grownBy w' (some t))(hne:b≠t):Bx3 w' b v0 v1 v2:=by
 have e:=hg.block b h.lt (fun e=>hne (by injection e));exact⟨(World.cell?_of_block (a:=⟨b,0,none⟩) e).trans h.c0,(World.cell?_of_block (a:=⟨b,1,none⟩) e).trans h.c1,(World.cell?_of_block (a:=⟨b,2,none⟩) e).trans h.c2,fun i=>(World.frozen?_of_block (a:=⟨b,i,none⟩) e).trans (h.f i),Nat.lt_of_lt_of_le h.lt hg.size⟩
theorem LB.low {w:World}{lo lo':Nat}{v:Value}{l:List Lf}(h:LB w lo v l)(hl:lo'<=lo):LB w lo' v l:=by
 obtain⟨P,Q,j,k⟩:=h;exact⟨P,Q,j.low hl,k⟩
theorem LB.set {w:World}{lo:Nat}{v:Value}{l:List Lf}(h:LB w lo v l)(q:Addr)(u:Value)(hq:q.block<lo):LB (w.setCell q u) lo v l:=
 h.move (by simp [World.setCell]) (fun b h1 h2=>zH _ _ _ _ (by omega))
theorem FR.setLow {w:World}{B:Nat}{v:Value}{l:List Rn}(h:FR w B v l)(q:Addr)(u:Value)(hq:q.block<B):FR (w.setCell q u) B v l:=
 h.setFar q u (fun e=>by have:=(World.ownsRow.lt h _ e).1;omega)
theorem SOw.of {w:World}{lo:Nat}{a x:Option Addr}{c d:Nat}{S:Sx}{ul:List Rn}(h:LB w lo (.slice a S.l.length c) S.l)(hf:FR w lo (.slice x S.n d) ul)(hn:S.n=ul.length)(hR:S.R=fun i=>(gR ul i).1)(hF:S.F=fun i=>(gR ul i).2.1)(hT:S.T=fun i=>(gR ul i).2.2)(hlo:lo<=w.heap.size):SOw w lo w.heap.size a x d S:=by
 obtain⟨P,Q,r,t⟩:=h;refine⟨fun w' k1 k2=>⟨?_,?_⟩,hlo,Nat.le_refl _⟩
 ·have j:=r.move k1 k2;rcases j.row.2 with ⟨e,m⟩|⟨g,cap,z,e,_⟩
  ·exact .inl m
  ·have k:=j;rw [e] at k;injection e with e1 e2 e3;rw [e1];exact k.lcap rfl
 ·have u:FR w' lo (.slice x S.n d) ul:=Qaq hf (fun q hq=>k2 q (World.ownsRow.lt hf q hq).1 (World.ownsRow.lt hf q hq).2);obtain⟨v,y,e,s,_,_⟩:=u.fs;injection e with e1 e2 e3;subst e1;rw [hn,hR,hF,hT];exact s.rseg
theorem QnZ {z0:Nat×Nat}{bd:Nat}{J:List Lf}{ul:List Rn}{R F T:Nat ->Int}{m:Nat}(w:World)(h:LvJ w z0 bd J ul)(hlv:QbQ R F T m J J.length)(hbd:LvB J):
  Calls Tryz.prog 17 #[.agg #[.map (some z0.1),.map (some z0.2),.map (some bd)]] w fun e w'=>(∃a c x d,e=.returned (.agg #[.slice a J.length c,.slice x ul.length d])/\ LB w' (w.heap.size+2) (.slice a J.length c) J/\ FR w' (w.heap.size+2) (.slice x ul.length d) ul/\ w.heap.size+2<=w'.heap.size)/\ Below w.heap.size w w':=by
 obtain⟨W,y⟩:∃W,(w.alloc (.cells #[.map (some z0.1),.map (some z0.2),.map (some bd)] 49)).alloc (.cells #[.slice none 0 0,.slice none 0 0] 28)=W:=⟨_,rfl⟩;have Q:Below w.heap.size w W:=by rw [<- y];exact Qak _ _ _
 have C:Bx3 W w.heap.size (.map (some z0.1)) (.map (some z0.2)) (.map (some bd)):=by rw [<- y];exact(Bx3.made _ _ _ _ _).below (zO _ _) (Bx3.made _ _ _ _ _).lt
 have X:Bx2 W (w.heap.size+1) (.slice none 0 0) (.slice none 0 0):=by rw [<- y];simpa using Bx2.made (w.alloc (.cells #[.map (some z0.1),.map (some z0.2),.map (some bd)] 49)) (.slice none 0 0) (.slice none 0 0) 28
 have zW:W.heap.size=w.heap.size+2:=by rw [<- y];simp
 obtain⟨N,B,c,n,D,G,L,j,V,P,h4,h5,h6⟩:=h.below Q;have Ha:=j.tj hbd.dis;have Y:Hid (∀w1,Below W.heap.size W w1 ->Calls Tryz.prog 43 #[.agg #[.map (some z0.1),.map (some z0.2)],.slice none 0 0,.slice none 0 0] w1 fun e w'=>(∃a c,e=.returned (.slice a J.length c)/\ LB w' W.heap.size (.slice a J.length c) J)/\ Below w1.heap.size w1 w'):=hid (fun w1 q=>by
  have:=Qc3 J W B c N (by simpa using j.tre) (Ha.nki (by rw [j.root];simp)) V hlv hbd 8 [] rfl (by omega) (.slice none 0 0) [] (.slice none 0 0) w1 q (LB.nil w1 _) (.inl ⟨rfl,rfl⟩) (fun g hg=>by cases hg) (by rw [QlH hlv];have:=hbd.len;simp;omega);rw [show Qac [] 3=([]:List Ky) from rfl,j.root] at this;refine this.mono ?_;rintro e w' ⟨v,rfl,z,g⟩;rw [QlH hlv,List.nil_append] at z;obtain⟨a,c,rfl⟩:=z.form;exact⟨⟨a,c,rfl,z⟩,g.below zL (fun k hk=>by cases hk)⟩)
 have Z:Hid (∀w1,Below W.heap.size W w1 ->Calls Tryz.prog 44 #[.map (some bd)] w1 fun e w'=>(∃x d,e=.returned (.agg #[.slice x ul.length d])/\ FR w' W.heap.size (.slice x ul.length d) ul)/\ Below w1.heap.size w1 w'):=hid (fun w1 q=>by
  have:=Qi5 (P.below q) h5 h6;rw [h4] at this;refine this.mono ?_;rintro e w' ⟨v,rfl,o,b⟩;obtain⟨a,c,rfl,_⟩:=o.fs;exact⟨⟨a,c,rfl,o.weak q.size⟩,b⟩)
 have p:=hid C;have H:=hid X;have Hb:=hid Q;have O:=hid zW;have i:Hid (∀w',Below W.heap.size W w' ->(w'.cell? ⟨w.heap.size,0,none⟩=some (.map (some z0.1))/\ w'.cell? ⟨w.heap.size,1,none⟩=some (.map (some z0.2))/\ w'.cell? ⟨w.heap.size,2,none⟩=some (.map (some bd)))):=hid (fun w' b=>by
  have E:=p.below b p.lt;exact⟨E.c0,E.c1,E.c2⟩)
 clear Q C X zW h j V P h4 h5 h6 Ha hlv hbd;go_enter Tryz.func17,Tryz.ntmps17;go_wp2_with fail;try rw [y]
 clear y;refine zR (S:=fun w'=>w'.cell? ⟨w.heap.size,0,none⟩=some (.map (some z0.1))/\ w'.cell? ⟨w.heap.size,1,none⟩=some (.map (some z0.2))/\ w'.cell? ⟨w.heap.size,2,none⟩=some (.map (some bd))) (i _ zI.drew) (fun qh=> ?_);refine tZ 0 3 ?_;refine tZ 1 4 ?_;refine tZ 3 6 ?_;refine tZ 4 7 ?_;refine cZ 2 ?_;intro K r;go_simp;refine(Y _ zI.drew).mono ?_;rintro e w1 ⟨⟨a,c,rfl,z⟩,q⟩;have s:Below W.heap.size W w1:=⟨q.os,q.tape,q.output,q.size,q.block⟩;have Hh:=hid z;clear z;refine r.out _ _ (i _ s) (fun qh=> ?_);clear r K;try simp only [zP]
 refine cZ 5 ?_;intro K r;go_simp;refine(Z _ s).mono ?_;rintro e A ⟨⟨x,d,rfl,o⟩,U⟩;have u:=Qab s U;have He:=hid o;have Hf:=hid (Hh.below U);have t:=H.below u H.lt;clear o;refine r.out _ _ (i _ u) (fun qh=> ?_);clear r K;try simp only [zP]
 refine tZ 6 9 ?_;have t0:=t.c0;have t1:=t.c1;have tf:=t.f;have I:=hid (t.set (.slice a J.length c) (.slice x ul.length d));have M:=hid (((p.below u p.lt).far (Qbw A ⟨w.heap.size+1,0,none⟩ (.slice a J.length c)) (by show w.heap.size≠w.heap.size+1;omega)).far (Qbw _ ⟨w.heap.size+1,1,none⟩ (.slice x ul.length d)) (by show w.heap.size≠w.heap.size+1;omega));have Hc:=hid (Qab Hb.out u);have Hi:Hid (w.heap.size+2<=A.heap.size):=hid (by have j:=O.out;have V:=u.size;omega);have Hg:Hid (LB ((A.setCell ⟨w.heap.size+1,0,none⟩ (.slice a J.length c)).setCell ⟨w.heap.size+1,1,none⟩ (.slice x ul.length d)) (w.heap.size+2) (.slice a J.length c) J):=hid (by
  have j:=Hf.out;rw [O.out] at j;exact(j.set _ _ (by show w.heap.size+1<w.heap.size+2;omega)).set _ _ (by show w.heap.size+1<w.heap.size+2;omega))
 have Hd:Hid (FR ((A.setCell ⟨w.heap.size+1,0,none⟩ (.slice a J.length c)).setCell ⟨w.heap.size+1,1,none⟩ (.slice x ul.length d)) (w.heap.size+2) (.slice x ul.length d) ul):=hid (by
  have j:=He.out;rw [O.out] at j;exact(j.setLow _ _ (by show w.heap.size+1<w.heap.size+2;omega)).setLow _ _ (by show w.heap.size+1<w.heap.size+2;omega))
 refine cZ 7 ?_;intro K r;go_simp;refine r.out _ _ ⟨M.c0,M.c1,M.c2⟩ (fun qh=> ?_);clear r K;try simp only [zP]
 refine zD ?_;clear qh q s U u t t0 t1 tf i Y Z;go_wp2_with fail;have s0:=I.c0;have s1:=I.c1;refine zF (v:=.agg #[.slice a J.length c,.slice x ul.length d]) (by simp [results,Tryz.results17,go_sem,s0,s1]) ⟨⟨a,c,x,d,rfl,Hg.out,Hd.out,by simp [World.setCell];have:=Hi.out;omega⟩,?_⟩;exact(Hc.setCell (by simp) _).setCell (by simp) _
theorem Qni {l m:List Lf}(hl:l.length=m.length)(h:∀i,i<l.length ->gL l i=gL m i):l=m:=by
 refine List.ext_getElem hl fun i h1 h2=> ?_;have:=h i h1;simpa [gL,List.getD,h1,h2] using this
end Go.Proofs.YtdeolligikjieaaGreatDoor
