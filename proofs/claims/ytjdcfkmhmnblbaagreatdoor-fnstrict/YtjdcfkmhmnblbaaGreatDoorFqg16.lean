import Derived.Test.YtjdcfkmhmnblbaaGreatDoorFqg05
import Derived.Test.YtjdcfkmhmnblbaaGreatDoorFqhShel2
import Derived.Shelf.SlIter.Collect
import Derived.Sort.MapsRangeIn
import Derived.WalkSmall
import Derived.Shelf.SlSortCmp.NoneTotal
import Derived.RangeFuncBound
import Derived.Test.YtjdcfkmhmnblbaaGreatDoorFqg08
import Derived.Test.YtjdcfkmhmnblbaaGreatDoorFqg13
import Derived.Test.YtjdcfkmhmnblbaaGreatDoorFqg04
set_option linter.unusedVariables false
set_option linter.unusedSimpArgs false
set_option maxRecDepth 100000
set_option maxHeartbeats 40000000
namespace Go.Proofs.YtjdcfkmhmnblbaaGreatDoor
open Go.ChangeShapes Go.WideShapes Go.ChangeAt Go.RowKit Go.Maps Go.Sort Go.Lib Go.Shelf
theorem QgD (n l Bm b nn:Nat)(f:Ky ->Option (Nat×Nat))(D0:DataW Value)(J:List Ky ->World ->Prop)(hn:1<=n)
  (hY:∀pre x W,J pre W ->pre.length<Maps.size D0 ->YieldAt Fence.wide (n - 1) Tryz.prog l #[Qbr x] W fun e W'=>e=.returned (.bool true)/\ J (pre++[x]) W'/\ KeepsWalks W W')
  (W:World) (hJ:AbidesFrom W.heap.size J) (hm:W.cell? ⟨Bm,0,none⟩=some (.map (some b))) (hF:FM W 113 Qbr Qdp b nn f D0) (h0:J [] W):
  CallsIn Fence.wide n Tryz.prog 106 #[.func (.yield l) #[] #[],.pointer (some ⟨Bm,0,none⟩)] W fun e W'=>(∃v,e=.returned v)/\∃j,QdA f j/\ J j W':=by
 have P:=hF.own;have z:=hid hF;have h:=hid hJ;have V:=hid hY;clear hF hJ hY;refine callsIn_of_wp Tryz.func106 rfl trivial ?_ rfl;simp only [Tryz.ntmps106,List.size_toArray,List.length_cons,List.length_nil,Nat.reduceAdd,Nat.reduceSub,Array.replicate_succ,Array.replicate_zero,List.push_toArray,List.append_toArray,List.nil_append,List.cons_append];gi_wp2_with (first
  | (gi_at_range;refine wpListIn_range_own _ rfl _ 50 rfl 113 53 Qb0 Tryz.underlying50 _ b nn _ rfl P ?_;intro w0 R L He)
  | gi_in)
 try go_frame
 gi_loopw [3] (fun _ wr=>∃(i:Lit ->Bool) (t:Nat) (j:List Ky),wr.ranges Tryz.prog 113 Qi3 b W.heap.size nn D0 i t/\ j.length+t<=Maps.size D0/\ Qd9 113 Qbr f i j/\ J j wr)
  (fun _ wr=>wr.rangeLeft b W.heap.size)
 case atStart=>exact⟨_,_,[],R,by simp,Qd9.start z.out,h.out [] W w0 none h0 L (fun r e=>by cases e)⟩
 case round=>
  obtain⟨i,t,j,o,O,A,E⟩:=hrel;have p:=hid A;have s:=hid O;clear A O;gi_wp2_with (first
   | (gi_at_next;refine wpListIn_next_ranges _ rfl _ rfl 113 Qb0 Qi3 Qbr id (fun key kl hk=>QiZ hk) (fun v _ _=>⟨v,rfl⟩) b W.heap.size nn _ _ _ rfl o ?_ ?_)
   | gi_in)
  ·intro Hd C;gi_wp2
   go_end0;exact⟨⟨_,rfl⟩,j,p.done z.out C,E⟩
  ·intro u q c kl yd yp k Y B D hv I S F N T K;have Z:J j k:=h j wr k (some W.heap.size) E N (fun r e=>by cases e;exact⟨Nat.le_refl _,o.iter_walk⟩);obtain⟨m,y⟩:∃m,k.alloc (.cells #[.string u,.int .i64 q] 113)=m:=⟨_,rfl⟩;have G:J j m:=by rw [<- y];exact h j k _ none Z (World.grownBy_alloc k _ none) (fun r e=>by cases e)
   obtain⟨fn,Hc,Ha,Hb,hy,M⟩:=V j (u,q) m G (by have:=s.out;omega);have g:Bx2 m k.heap.size (.string u) (.int .i64 q):=by rw [<- y];exact Bx2.made _ _ _ _
   have Q:=S.alloc (.cells #[.string u,.int .i64 q] 113);rw [y] at Q;have q0:=g.c0;have q1:=g.c1;clear T g;dsimp only [Qbr] at K hy M ⊢;gi_wp2
   try rw [y]
   refine M.mono ?_;rintro e W3 ⟨rfl,H,X⟩;gi_wp2
   have U:=Q.of_walks X;go_roundw;case rel=>exact⟨_,Y,j++[(u,q)],U,by have:=s.out;simp;omega,p.step z.out Qb0 (fun _ _=>Qfh) B D I,H⟩
   case measure=>rw [U.left_eq,o.left_eq];exact F
def kCells (x:Ky):List Value:=[.string x.1,.int .i64 x.2]
def kRow (ss:List Ky):List Value:=ss.flatMap kCells
theorem QdS (ss:List Ky)(x:Ky):kRow (ss++[x])=kRow ss++kCells x:=by simp [kRow]
theorem Qmr:(Tryz.prog.info? 113).map (fun i=>(i.zero,i.size,i.bytes))=some (some (.agg #[.string ByteArray.empty,.int .i64 0]),2,24):=by kernel_rfl
def apA:Code:=(Code.region 2 #[{dst:=some 5,op:=Op.alloc 113,type:=0,pos:= "iter.go:51",after:=#[],guard:=none},{dst:=none,op:=Op.store 113 (Operand.tmp 5) (Operand.tmp 7),type:=0,pos:= "iter.go:51",after:=#[{on:=0,ground:=Ground.data},{on:=0,ground:=Ground.phase}],guard:=none}] false)
def apB:Code:=(Code.block 1 (Code.region 3 #[{dst:=some 8,op:=Op.load 108 (Operand.tmp 2),type:=108,pos:= "iter.go:52",after:=#[],guard:=none},{dst:=some 9,op:=Op.load 113 (Operand.tmp 5),type:=113,pos:= "iter.go:52",after:=#[],guard:=none},{dst:=some 10,op:=Op.buildSlice 108 1 #[(0,Operand.tmp 9)],type:=108,pos:= "iter.go:52",after:=#[{on:=1,ground:=Ground.data}],guard:=none},{dst:=some 11,op:=Op.call {callee:=Callee.builtin Builtin.append,args:=#[Operand.tmp 8,Operand.tmp 10],argTypes:=#[108,108]},type:=108,pos:= "iter.go:52",after:=#[{on:=0,ground:=Ground.data},{on:=2,ground:=Ground.data}],guard:=none},{dst:=none,op:=Op.store 108 (Operand.tmp 2) (Operand.tmp 11),type:=0,pos:= "iter.go:52",after:=#[{on:=3,ground:=Ground.data},{on:=3,ground:=Ground.chain},{on:=0,ground:=Ground.phase},{on:=1,ground:=Ground.phase},{on:=2,ground:=Ground.phase},{on:=3,ground:=Ground.phase}],guard:=none}] false))
def Qbo (fn:FuncId)(sv:Value)(Bs D:Nat)(st:LoopState):Loop:=
 {state:=st,pending:=none,fn,tmps:=#[.slice none 0 0,sv,.pointer (some ⟨Bs,0,none⟩),undef,.slice none 0 0,undef,sv,undef,undef,undef,undef,undef,undef],params:=#[7],assign:=apA,body:=apB,defers:=D}
structure QhW (w0:World)(fn:FuncId)(sv:Value)(Bs l D:Nat)(ss:List Ky)(W:World):Prop where
 box:∃v,W.heap[Bs]? =some (.cells #[v] 108 (0,0))/\ W.ownsRow w0.heap.size 113 2 v ss.length (kRow ss)/\ (v=.slice none 0 0↔ss=[])
 L:W.heap[l]? =some (.loop (Qbo fn sv Bs D .ready))
 K:W.heap[D]? =some (.deferred (some []))
 below:RowKit.Below w0.heap.size w0 W
theorem QbX (w0:World)(fn:FuncId)(sv:Value)(Bs l D B:Nat)(hB:w0.heap.size<=B):AbidesFrom B (QhW w0 fn sv Bs l D):=fun s W W' row h hg hrow=>by
 have j:∀r,row=some r ->∃o:Obj,W.heap[r]? =some o/\ o.isWalk=true:=fun r e=>(hrow r e).2;obtain⟨v,m,u,q⟩:=h.box;exact⟨⟨v,(grownBy_keeps hg j m rfl).trans m,ownsRow_abides_a u hg j,q⟩,(grownBy_keeps hg j h.L rfl).trans h.L,(grownBy_keeps hg j h.K rfl).trans h.K,h.below.grown hg h.below.size (fun k e=>Nat.le_trans hB (hrow k e).1)⟩
theorem QeO (m:Nat)(w0:World)(fn:FuncId)(sv:Value)(Bs l D:Nat)(hBl:Bs≠l)(hDl:D≠l)(hDB:D≠Bs)(h0B:w0.heap.size<=Bs)(h0l:w0.heap.size<=l)
    (N:Nat) (hN:N<=maxLen) (hNb:N*24<=140737488355328) (ss:List Ky) (x:Ky) (W:World) (h:QhW w0 fn sv Bs l D ss W) (hlen:ss.length<N):
    YieldAt Fence.wide m Tryz.prog l #[Qbr x] W fun e W'=>e=.returned (.bool true)/\ QhW w0 fn sv Bs l D (ss++[x]) W'/\ KeepsWalks W W':=by
  have Hj:108≠113:=by decide
  obtain⟨i0,hi,Ht,Hu,Hv⟩:=info_parts Qmr;refine⟨fn,#[.slice none 0 0,sv,.pointer (some ⟨Bs,0,none⟩),undef,.slice none 0 0,undef,sv,Qbr x,undef,undef,undef,undef,undef],apA,apB,by simpa [Qbo] using run_yield (P:=Tryz.prog) (args:=#[Qbr x]) h.L rfl,roundIn_of_wpIn trivial ?_⟩;obtain⟨s,p⟩:=x;obtain⟨y,X⟩:∃y,W.alloc (.cells #[.string s,.int .i64 p] 113)=y:=⟨_,rfl⟩;have z:QhW w0 fn sv Bs l D ss y:=by rw [<- X];exact QbX w0 fn sv Bs l D w0.heap.size zL ss W _ none h (World.grownBy_alloc W _ none) (fun r e=>by cases e)
  have Hi:KeepsWalks W y:=by rw [<- X];exact KeepsWalks.alloc _ _
  have E:Bx2 y W.heap.size (.string s) (.int .i64 p):=by rw [<- X];exact Bx2.made _ _ _ _
  have H0:l<W.heap.size:=(Array.getElem?_eq_some_iff.1 h.L).1;obtain⟨v,hv,C,_⟩:=z.box;have hl:l<y.heap.size:=(Array.getElem?_eq_some_iff.1 z.L).1;have Hm:=run_beginRound (P:=Tryz.prog) z.L rfl;obtain⟨q,i⟩:∃q,y.putObj l (.loop {Qbo fn sv Bs D .ready with state:=.busy})=q:=⟨_,rfl⟩;rw [i] at Hm;have U:y.grownBy q (some l):=by rw [<- i];exact grownBy_putObj_a _ _ _
  have Ho:KeepsWalks W q:=Hi.trans (by rw [<- i];exact KeepsWalks.putObj _ z.L rfl);have Z:q.heap[Bs]? =some (.cells #[v] 108 (0,0)):=by rw [<- i];exact(World.putObj_heap_other hBl).trans hv
  have I:q.heap[D]? =some (.deferred (some [])):=by rw [<- i];exact(World.putObj_heap_other hDl).trans z.K
  have J:q.heap[l]? =some (.loop {Qbo fn sv Bs D .ready with state:=.busy}):=by rw [<- i];exact World.putObj_heap_same hl
  have F:q.ownsRow w0.heap.size 113 2 v ss.length (kRow ss):=C.kept U (ownsRow_ne_a C z.L (fun cur e=>by cases e));have Q:RowKit.Below w0.heap.size w0 q:=z.below.grown U z.below.size (fun k e=>by cases e;exact h0l);have H:q.heap[W.heap.size]? =y.heap[W.heap.size]? :=U.block _ E.lt (fun e=>by injection e with e;omega);have q0:q.cell? ⟨W.heap.size,0,none⟩=some (.string s):=(World.cell?_of_block (a:=⟨W.heap.size,0,none⟩) H).trans E.c0;have q1:q.cell? ⟨W.heap.size,1,none⟩=some (.int .i64 p):=(World.cell?_of_block (a:=⟨W.heap.size,1,none⟩) H).trans E.c1;obtain⟨Hw,Hy⟩:=cell_of_box_a Z;have Hb:Bs<q.heap.size:=(Array.getElem?_eq_some_iff.1 Z).1;have Hq:l<q.heap.size:=(Array.getElem?_eq_some_iff.1 J).1;have Hc:D<q.heap.size:=(Array.getElem?_eq_some_iff.1 I).1;have ne_of:∀{j:Nat} {o:Obj},q.heap[j]? =some o ->(∀cur,o≠.cells cur 113 (0,0)) ->some j≠v.ownBlock:=fun hj hno=>by
    rcases ownsRow_ne_a F hj hno with e|e
    · rw [e];simp
    · exact fun e'=>e e'.symm
  have G:=hid F;have HZ:=hid Q.size;clear i C F E H U Hi;unfold apA;dsimp only [Qbr];gi_wp2_with gi_round_op_a
  unfold apB;gi_wp2_with (first
    | (gi_at_builtin;refine wpListIn_append_own _ rfl _ _ 108 rfl w0.heap.size 113 i0 (.agg #[.string ByteArray.empty,.int .i64 0]) 2 24 Tryz.underlying108 hi Ht Hu Hv rfl (by decide) _ _ _ rfl (G.alloc _) ⟨q.heap.size,0,none⟩ 1 1 [.string s,.int .i64 p] rfl rfl (cell_two_new _ _ _ _) (by simp [Value.oneCell']) (by omega) (by omega) (by have:=HZ.out;simp;omega) ?_;intro v' g B Hh Hk
       have R:g.heap[Bs]? =some (.cells #[v] 108 (0,0)):=(Hh.block Bs (by simp;omega) (ne_of Z (fun cur e=>Hj (Obj.cells.inj e).2.1))).trans ((Below.heap_alloc _ _ Bs Hb).trans Z)
       obtain⟨Hx,Hz⟩:=cell_of_box_a R
       obtain⟨b,t,M,rfl,Hd,Hn,H1,H2,H3,H4⟩:∃b t M,v'=.slice (some ⟨b,0,none⟩) (ss.length+1) t/\ w0.heap.size<=b/\ g.heap[b]? =some (.cells M 113 (0,0))/\ ss.length+1<=t/\ t<=maxLen/\ M.size=t*2/\ M.toList.take ((ss.length+1)*2)=kRow ss++[.string s,.int .i64 p]:=by
         rcases B.2 with ⟨_,h0⟩|h'
         · exact absurd h0 (by omega)
         · exact h'
       have S:=hid B
       clear B
       try go_frame)
    | gi_round_op_a)
  have V:(q.alloc (.cells #[.string s,.int .i64 p] 113)).grownBy g v.ownBlock:=Hh;have He:g.heap[l]? =some (.loop {Qbo fn sv Bs D .ready with state:=.busy}):=(V.block l (by simp;omega) (ne_of J (fun cur e=>by cases e))).trans ((Below.heap_alloc _ _ l Hq).trans J);have T:g.heap[D]? =some (.deferred (some [])):=(V.block D (by simp;omega) (ne_of I (fun cur e=>by cases e))).trans ((Below.heap_alloc _ _ D Hc).trans I);obtain⟨u,A⟩:∃u,g.setCell ⟨Bs,0,none⟩ (.slice (some ⟨b,0,none⟩) (ss.length+1) t)=u:=⟨_,rfl⟩;rw [A];have Y:g.grownBy u (some Bs):=by rw [<- A];exact grownBy_setCell0_a _ _ _
  have Hs:u.heap[Bs]? =some (.cells #[.slice (some ⟨b,0,none⟩) (ss.length+1) t] 108 (0,0)):=by rw [<- A];exact heap_setCell_box_a _ R
  have O:u.heap[l]? =some (.loop {Qbo fn sv Bs D .ready with state:=.busy}):=(Y.block l (Array.getElem?_eq_some_iff.1 He).1 (fun e=>hBl (by cases e;rfl))).trans He;have Hl:u.heap[D]? =some (.deferred (some [])):=(Y.block D (Array.getElem?_eq_some_iff.1 T).1 (fun e=>hDB (by cases e;rfl))).trans T;have Ha:=S.kept Y (ownsRow_ne_a S.out R (fun cur e=>Hj (Obj.cells.inj e).2.1));have Hr:l<u.heap.size:=(Array.getElem?_eq_some_iff.1 O).1;have Hf:RowKit.Below w0.heap.size w0 g:=(Q.alloc Q.size _).grown V (by have:=Q.size;simp;omega) (fun k e=>(G.lt k e).1);have Hg:RowKit.Below w0.heap.size w0 u:=Hf.grown Y Hf.size (fun k e=>by cases e;exact h0B);have Hp:KeepsWalks W u:=((Ho.trans (KeepsWalks.alloc _ _)).trans (KeepsWalks.of_grownBy V (ownsRow_not_walk_a (G.alloc _)))).trans (by rw [<- A];exact KeepsWalks.setCell _ _ _);clear A;refine⟨_,_,run_endRound none O,rfl,⟨⟨_,(World.putObj_heap_other hBl).trans Hs,?_,by simp⟩,World.putObj_heap_same Hr,(World.putObj_heap_other hDl).trans Hl,Hg.grown (grownBy_putObj_a _ _ _) Hg.size (fun k e=>by cases e;exact h0l)⟩,Hp.trans (KeepsWalks.putObj _ O rfl)⟩;have:=Ha.kept (grownBy_putObj_a u l (.loop {{Qbo fn sv Bs D .ready with state:=.busy} with state:=if (none:Option Code).isNone then .ready else .done,pending:=none})) (ownsRow_ne_a Ha O (fun cur e=>by cases e));rw [QdS];simpa [kCells] using this
theorem QcS (n:Nat)(hn:2<=n)(g:Nat)(lb:Array Value)(eg:∀args w,(callFunc g args).run Tryz.prog w=.ok (.enter g args) w)
  (S:List Ky ->Prop) (N:Nat) (hN:N<=maxLen) (hNb:N*24<=140737488355328) (w:World) (hseq:SeqGives Fence.wide (n - 1) Tryz.prog g lb Qbr S N w):
  CallsIn Fence.wide n Tryz.prog 129 #[.slice none 0 0,.func (.func g) #[] lb] w fun e w'=>∃(v:Value) (y:List Ky),e=.returned v/\ S y/\ w'.ownsRow w.heap.size 113 2 v y.length (kRow y)/\ (v=.slice none 0 0↔y=[])/\ RowKit.Below w.heap.size w w':=by
 have F:108≠113:=by decide
 refine callsIn_of_wp_marks Tryz.func129 rfl trivial ?_ rfl;simp only [Tryz.ntmps129,List.size_toArray,List.length_cons,List.length_nil,Nat.reduceAdd,Nat.reduceSub,Array.replicate_succ,Array.replicate_zero,List.push_toArray,List.append_toArray,List.nil_append,List.cons_append];gi_wp2
 refine wpIn_rangeFunc ?_;intro r D;obtain⟨j,t⟩:∃j,w.alloc (.cells #[.slice none 0 0] 108)=j:=⟨_,rfl⟩;have G:j.heap.size=w.heap.size+1:=by rw [<- t];simp
 have I:j.heap[w.heap.size]? =some (.cells #[.slice none 0 0] 108 (0,0)):=by rw [<- t];exact World.alloc_heap_new w _
 have o:RowKit.Below w.heap.size w j:=by rw [<- t];exact(RowKit.Below.refl _ w).alloc zL _
 rw [t];obtain⟨m,z⟩:∃m,(j.alloc (.deferred (some []))).alloc (.loop (Qbo r (.func (.func g) #[] lb) w.heap.size j.heap.size .ready))=m:=⟨_,rfl⟩;have Z:∀k,k<j.heap.size ->m.heap[k]? =j.heap[k]? :=fun k hk=>by
  rw [<- z];exact(Below.heap_alloc _ _ k (by simp;omega)).trans (Below.heap_alloc _ _ k hk)
 have i:RowKit.Below w.heap.size w m:=by rw [<- z];exact(o.alloc o.size _).alloc (by have:=o.size;simp;omega) _
 have U:QhW w r (.func (.func g) #[] lb) w.heap.size (j.heap.size+1) j.heap.size [] m:=
  ⟨⟨_,(Z w.heap.size (by omega)).trans I,⟨rfl,.inl ⟨rfl,rfl⟩⟩,by simp⟩,
   by rw [<- z];have:=World.alloc_heap_new (j.alloc (.deferred (some []))) (.loop (Qbo r (.func (.func g) #[] lb) w.heap.size j.heap.size .ready));rwa [World.size_alloc] at this,
   by rw [<- z];exact(Below.heap_alloc _ _ _ (by simp)).trans (World.alloc_heap_new j _),i⟩
 refine⟨j.heap.size+1,[{target:=.collected j.heap.size,args:=#[]}],m,{target:=.fn (.func g) lb,args:=#[.func (.yield (j.heap.size+1)) #[] #[]]},m,g,
  #[.func (.yield (j.heap.size+1)) #[] #[]]++lb,m,?_,?_,?_,?_,fun _=>by omega,?_⟩
 ·rw [<- z];exact run_enterLoop_outer _ _ _ _ _
 ·simp [resolve,go_sem]
 ·intro f' B;trivial
 ·simp [invoke,go_sem,eg]
 ·refine(hseq (j.heap.size+1) (QhW w r (.func (.func g) #[] lb) w.heap.size (j.heap.size+1) j.heap.size) m i (QbX _ _ _ _ _ _ _ i.size)
   (fun pre x W hJ hl=>QeO (n - 1 - 1) w r _ w.heap.size (j.heap.size+1) j.heap.size (by omega) (by omega) (by omega) zL (by omega) N hN hNb pre x W hJ hl) U).mono ?_
  rintro e s ⟨⟨R,rfl⟩,y,V,u⟩;obtain⟨v,H,b,Y⟩:=u.box;have M:=run_endLoop (P:=Tryz.prog) u.L (by simp [Qbo]);obtain⟨q,h⟩:∃q,s.putObj (j.heap.size+1) (.loop {Qbo r (.func (.func g) #[] lb) w.heap.size j.heap.size .ready with state:=.exhausted})=q:=⟨_,rfl⟩;rw [h] at M;have O:s.grownBy q (some (j.heap.size+1)):=by rw [<- h];exact grownBy_putObj_a _ _ _
  have J:q.heap[w.heap.size]? =some (.cells #[v] 108 (0,0)):=by rw [<- h];exact(World.putObj_heap_other (by omega)).trans H
  have A:q.heap[j.heap.size]? =some (.deferred (some [])):=by rw [<- h];exact(World.putObj_heap_other (by omega)).trans u.K
  have Q:=b.kept O (ownsRow_ne_a b u.L (fun cur e=>by cases e));have E:RowKit.Below w.heap.size w q:=u.below.grown O u.below.size (fun k e=>by cases e;omega);obtain⟨X,C⟩:=cell_of_box_a J;have p:=hid Q;clear h b Q;refine⟨none,q,M,?_⟩;gi_wp2
  rw [<- G];refine⟨by simp,.inl ⟨_,_,rfl,run_takeDeferred A,?_⟩⟩;exact⟨_,results_tmp rfl _ _ _,v,y,rfl,V,p.kept (grownBy_putObj_a _ _ _) (ownsRow_ne_a p.out A (fun cur e=>by cases e)),Y,E.grown (grownBy_putObj_a _ _ _) E.size (fun k e=>by cases e;omega)⟩
theorem QeU (g:Nat)(lb:Array Value)(eg:∀args w,(callFunc g args).run Tryz.prog w=.ok (.enter g args) w)
  (S:List Ky ->Prop) (N:Nat) (hN:N<=maxLen) (hNb:N*24<=140737488355328) (w:World) (hseq:SeqGives Fence.wide 4 Tryz.prog g lb Qbr S N w):
  Calls Tryz.prog 104 #[.func (.func g) #[] lb] w fun e w'=>∃(v:Value) (j:List Ky),e=.returned v/\ S j/\ w'.ownsRow w.heap.size 113 2 v j.length (kRow j)/\ (v=.slice none 0 0↔j=[])/\ RowKit.Below w.heap.size w w':=by
 have m:=hid ((callsIn_wide (n:=5)).1 (QcS 5 (by omega) g lb eg S N hN hNb w hseq));go_enter Tryz.func104,Tryz.ntmps104;go_wp2_with fail;refine m.mono ?_;rintro e w' ⟨v,j,rfl,q,y,u,r⟩;have k:=hid (And.intro q (And.intro y (And.intro u r)));clear q y u r m;go_wp2_with fail;go_ret;exact⟨v,j,rfl,k.1,k.2.1,k.2.2.1,k.2.2.2⟩
theorem QcZ (Bm b nn:Nat)(f:Ky ->Option (Nat×Nat))(D0:DataW Value)(w:World)(hBm:Bm<w.heap.size)(hm:w.cell? ⟨Bm,0,none⟩=some (.map (some b)))(hF:FM w 113 Qbr Qdp b nn f D0):
  SeqGives Fence.wide 4 Tryz.prog 106 #[.pointer (some ⟨Bm,0,none⟩)] Qbr (QdA f) (Maps.size D0) w:=fun l J W hW hJ hY h0=>by
 have j:FM W 113 Qbr Qdp b nn f D0:=⟨QbN hF.own (hW.block b hF.own.lt),hF.at',hF.cov,hF.ok⟩;exact QgD 4 l Bm b nn f D0 J (by omega) hY W hJ ((hW.cell (p:=⟨Bm,0,none⟩) hBm).trans hm) j h0
theorem Qca (x y:Ky)(w:World):Calls Tryz.prog 77 #[.agg #[.string x.1,.int .i64 x.2],.agg #[.string y.1,.int .i64 y.2]] w fun e w'=>e=.returned (.int .i64 (QbA x y))/\ Bw w w':=by
 obtain⟨s,k⟩:=x;obtain⟨q,m⟩:=y;dsimp only;obtain⟨W,u⟩:∃W,(w.alloc (.cells #[.string s,.int .i64 k] 113)).alloc (.cells #[.string q,.int .i64 m] 113)=W:=⟨_,rfl⟩;have b:Bw w W:=by rw [<- u];exact⟨Qak _ _ _,Nat.le_refl _⟩
 have t:Bx2 W w.heap.size (.string s) (.int .i64 k):=by rw [<- u];exact(Bx2.made w _ _ _).allocs _
 have o:Bx2 W (w.heap.size+1) (.string q) (.int .i64 m):=by rw [<- u];simpa using Bx2.made (w.alloc (.cells #[.string s,.int .i64 k] 113)) (.string q) (.int .i64 m) 113
 have v:=hid b;have h:=hid t;have g:=hid o;clear b t o;go_enter Tryz.func77,Tryz.ntmps77;go_wp2_with fail;try rw [u]
 clear u;have z:Hid (∀w',Bw W w' ->(Bw W w'/\ w'.cell? ⟨w.heap.size,0,none⟩=some (.string s)/\ w'.cell? ⟨w.heap.size,1,none⟩=some (.int .i64 k)/\ w'.cell? ⟨w.heap.size+1,0,none⟩=some (.string q)/\ w'.cell? ⟨w.heap.size+1,1,none⟩=some (.int .i64 m))):=hid (fun w' r=>by
  have x0:=h.below r.1 h.lt;have p:=g.below r.1 g.lt;exact⟨r,x0.c0,x0.c1,p.c0,p.c1⟩)
 refine zR (S:=fun w'=>Bw W w'/\ w'.cell? ⟨w.heap.size,0,none⟩=some (.string s)/\ w'.cell? ⟨w.heap.size,1,none⟩=some (.int .i64 k)/\ w'.cell? ⟨w.heap.size+1,0,none⟩=some (.string q)/\ w'.cell? ⟨w.heap.size+1,1,none⟩=some (.int .i64 m)) (z _ ⟨zI.drew,Nat.le_succ _⟩) (fun qh=> ?_);refine tZ 0 5 ?_;refine tZ 1 6 ?_;refine tZ 2 7 ?_;refine tZ 3 8 ?_;refine tZ 5 10 ?_;refine tZ 6 11 ?_;refine tZ 7 12 ?_;refine tZ 8 13 ?_;refine cZ 4 ?_;intro K j;go_simp;refine(QiC s q _).mono ?_;rintro e w1 ⟨rfl,rfl⟩;refine j.out _ _ qh (fun qh=> ?_);clear j K;try simp only [zP]
 refine cZ 9 ?_;intro K j;go_simp;refine(QbZ k m _).mono ?_;rintro e E ⟨rfl,rfl⟩;refine j.out _ _ qh (fun qh=> ?_);clear j K;try simp only [zP]
 refine cZ 10 ?_;intro K j;go_simp;have r:Bw W (W.drew.alloc (.cells #[.int .i64 (QbH s q),.int .i64 (QaV k m)] 3)):=⟨qh.1.1.alloc qh.1.1.size _,qh.1.2⟩;refine j.out _ _ (z _ r) (fun qh=> ?_);clear j K;try simp only [zP]
 refine cZ 11 ?_;intro K j;go_simp;refine(QiA _ 2 2 (fun i=>if i=0 then QbH s q else QaV k m) _ (by omega) (fun i hi=> ?_)).mono ?_
 ·match i,hi with
  | 0,_=>simp
  | 1,_=>simp
 rintro e M ⟨rfl,rfl⟩;refine j.out _ _ qh (fun qh=> ?_);clear j K;try simp only [zP]
 refine tZ 12 4 ?_;refine zD ?_;have A:Hid (Bw w (W.drew.alloc (.cells #[.int .i64 (QbH s q),.int .i64 (QaV k m)] 3))):=hid ⟨v.1.trans (qh.1.1.mono v.1.size),Nat.le_trans v.2 qh.1.2⟩;clear qh r;go_wp2_with fail;go_ret;exact⟨QbE nz2,A.out⟩
instance:Inhabited Ky:=⟨(ByteArray.empty,0)⟩
theorem QbC (x:Ky):(kCells x).length=2:=rfl
theorem Qbk (ss:List Ky):(kRow ss).length=ss.length*2:=by
 induction ss with
 | nil=>rfl
 | cons x r ih=>simp only [kRow,List.flatMap_cons,List.length_append,List.length_cons] at*;rw [ih,QbC];omega
theorem kRow_get:∀(ss:List Ky) (t:Nat),t<ss.length*2 ->(kRow ss)[t]? =some ((kCells ss.toArray[t/2]!)[t%2]!)
 | [],t,h=>by simp at h
 | x::r,t,h=>by
  rcases Nat.lt_or_ge t 2 with q|q
  ·have:t=0 \/t=1:=by omega
   rcases this with rfl|rfl<;>simp [kRow,kCells]
  ·obtain⟨u,rfl⟩:∃u,t=u+2:=⟨t - 2,by omega⟩;have y:=kRow_get r u (by simp at h;omega);have j:(u+2)/2=u/2+1:=by omega
   have k:(u+2)%2=u%2:=by omega
   rw [j,k];have v:u/2<r.length:=by simp at h;omega
   have m:(x::r).toArray[u/2+1]! =r.toArray[u/2]! :=by
    rw [getElem!_pos _ _ (by simp;omega),getElem!_pos _ _ (by simpa using v)];simp
   rw [m,<- y];simp [kRow,kCells]
theorem QdH (ss:List Ky):(flatK kCells 2 ss.toArray).toList=kRow ss:=by
 apply List.ext_getElem?;intro t;by_cases h:t<ss.length*2
 ·rw [kRow_get ss t h];have j:t<(flatK kCells 2 ss.toArray).size:=by simpa using h
  have:=get_flatK kCells 2 ss.toArray t (by simpa using h);rw [getElem!_pos _ t j] at this;rw [Array.getElem?_toList,Array.getElem?_eq_getElem j,this]
 ·rw [List.getElem?_eq_none (by simp;omega),List.getElem?_eq_none (by rw [Qbk];omega)]
theorem Qcb {w:World}{g n:Nat}{os:Array Obj}{cur:Array Value}{e:TypeId}{fr:Nat×Nat}(d:Array Value)(hb:w.heap[g]? =some (.cells cur e fr)):
  (grow (putRow id (Sort.ahead w n) g 0 d) os).heap[g]? =some (.cells (putCells id 0 d cur) e fr):=by
 have j:g<w.heap.size:=(Array.getElem?_eq_some_iff.1 hb).1;rw [heap_grow_old _ _ (by simpa [putRow,mapBlock,Sort.ahead] using j)];simp [putRow,mapBlock,Sort.ahead,Array.getElem?_modify,hb,onCells]
theorem Qbq {w:World}{g n:Nat}{os:Array Obj}(d:Array Value):w.grownBy (grow (putRow id (Sort.ahead w n) g 0 d) os) (some g):=by
 refine⟨rfl,rfl,rfl,by simp [grow,putRow,mapBlock,Sort.ahead],fun k hk hne=> ?_⟩;rw [heap_grow_old _ _ (by simpa [putRow,mapBlock,Sort.ahead] using hk)];have:g≠k:=fun e=>hne (by rw [e]);simp [putRow,mapBlock,Sort.ahead,Array.getElem?_modify,this]
theorem Qes (cur:Array Value)(ts:List Value)(h:ts.length<=cur.size):(putCells id 0 ts.toArray cur).toList.take ts.length=ts:=by
 apply List.ext_getElem?;intro j;by_cases k:j<ts.length
 ·rw [List.getElem?_take_of_lt k,Array.getElem?_toList];simp [putCells,k,show j<cur.size by omega]
 ·rw [List.getElem?_take_eq_none (by omega),List.getElem?_eq_none (by omega)]
theorem Qgy:∀args w,(callFunc 77 args).run Tryz.prog w=.ok (.enter 77 args) w:=enters_of Tryz.func77 (by kernel_rfl) rfl
theorem QeS (blk off size:Nat)(w:World):CmpLays Tryz.prog 77 #[] kCells 2 QbA blk off size w:=fun m os dk _ x y=>
 (Qca x y _).mono fun e w' ⟨he,hb⟩=>⟨he,hb.grown⟩
theorem Qeo (B blk cap:Nat)(ss:List Ky)(w:World)(ho:w.ownsRow B 113 2 (.slice (some ⟨blk,0,none⟩) ss.length cap) ss.length (kRow ss))(hsz:ss.length<=1048576):
  Calls Tryz.prog 105 #[.slice (some ⟨blk,0,none⟩) ss.length cap,.func (.func 77) #[] #[]] w fun e w'=>e=.returned (.tuple #[])/\∃ts:List Ky,ts.Perm ss/\ SortedIn (ltOf QbA) 0 ts.length ts.toArray/\ w'.ownsRow B 113 2 (.slice (some ⟨blk,0,none⟩) ss.length cap) ss.length (kRow ts)/\ w.grownBy w' (some blk):=by
 rcases ho.2 with ⟨o,_⟩|⟨Y,V,z,q,E,m,i,b,p,s⟩
 ·cases o
 cases q;have M:blk<w.heap.size:=(Array.getElem?_eq_some_iff.1 m).1;have A:HoldsK kCells 2 w blk 0 ss.toArray:=by
  intro t U;have y:t<ss.length*2:=by simpa using U
  refine⟨?_,by simp [World.frozen?,m]⟩;have k:(z.toList.take (ss.length*2))[t]? =(kRow ss)[t]? :=by rw [s]
  rw [List.getElem?_take_of_lt y,kRow_get ss t y] at k;have r:=get_flatK kCells 2 ss.toArray t (by simpa using y);rw [r];simp only [World.cell?,m,Nat.zero_add,Option.isSome_none,Bool.false_eq_true,if_false];rw [<- Array.getElem?_toList,k];rfl
 have u:=AnyQ.slices_SortFunc Tryz.sortK 2 Tryz.isAgg113 Tryz.sizeOf113 kCells QbC (fun x v q=>by simp [kCells] at q;rcases q with rfl|rfl<;>rfl) QbA QaG.key.swo 77 #[] blk 0 cap ss.toArray w Qgy (QeS blk 0 _ w) A M (by simp;omega);change Calls Tryz.prog 105 _ _ _ at u;simp only [List.size_toArray] at u;refine u.mono ?_;rintro e w' ⟨rfl,d',n,Z,h,Q,rfl⟩;have j:d'.size=ss.length:=by simpa using h.1
 have O:d'.toList.Perm ss:=by
  have:=h.2.2;have k:d'.extract 0 ss.length=d':=by rw [<- j];simp
  have r:ss.toArray.extract 0 ss.length=ss.toArray:=by simp
  rw [k,r] at this;simpa using this
 refine⟨rfl,d'.toList,O,by simpa [j] using Q,⟨by rw [Qbk];simp [j],.inr ⟨blk,cap,_,rfl,E,Qcb _ m,i,b,by simp [putCells,p],?_⟩⟩,Qbq _⟩;have g:flatK kCells 2 d'=(kRow d'.toList).toArray:=by
  have:=QdH d'.toList;simp only [Array.toArray_toList] at this;rw [<- this]
 rw [g];have:=Qes z (kRow d'.toList) (by rw [Qbk];simp [j];omega);rw [Qbk] at this;simpa [j] using this
theorem Qdb {ts:List Ky}(h:ts.Nodup)(hs:SortedIn (ltOf QbA) 0 ts.length ts.toArray):ts.Pairwise (fun x y=>QbA x y<0):=by
 have:=QaG.key.rises (d:=ts.toArray) (by simpa using hs) (by simpa using h);simpa using this
theorem Qc5 (g:Nat)(lb:Array Value)(eg:∀args w,(callFunc g args).run Tryz.prog w=.ok (.enter g args) w)(N:Nat)(f:Ky ->Option (Nat×Nat))(w:World)(hN:N<=1048576)(hseq:SeqGives Fence.wide 4 Tryz.prog g lb Qbr (QdA f) N w):
  Calls Tryz.prog 75 #[.func (.func g) #[] lb,.func (.func 77) #[] #[]] w fun e w'=>∃(v:Value) (j:List Ky),e=.returned v/\ j.Pairwise (fun x y=>QbA x y<0)/\ (∀x,x∈j↔f x≠none)/\ j.length<=1048576/\ w'.ownsRow w.heap.size 113 2 v j.length (kRow j)/\ RowKit.Below w.heap.size w w':=by
 have o:=hid (QeU g lb eg _ N (by unfold maxLen;omega) (by omega) w (SeqGives.bounded hseq));go_enter Tryz.func75,Tryz.ntmps75;go_wp2_with fail;refine o.mono ?_;rintro e w1 ⟨v,b,rfl,⟨h,B⟩,q,H,t⟩;rcases q.2 with ⟨rfl,J⟩|⟨Z,cap,L,rfl,G,X,r1,r2,C,D⟩
 ·have I:b=[]:=List.eq_nil_of_length_eq_zero J;subst I;have r:=hid t;have u:=hid h;have U:=hid q;have i:=AnyF.slices_SortFunc_none Tryz.sortK none 0 (.func (.func 77) #[] #[]) w1;change Calls Tryz.prog 105 _ _ _ at i;have m:=hid i;clear t h q o i;go_wp2_with fail;refine m.mono ?_;rintro e K ⟨rfl,rfl⟩;clear m;go_wp2_with fail;go_ret;exact⟨_,[],rfl,List.Pairwise.nil,fun x=>u.2 x,by simp,U.out,r.out⟩
 ·have m:=hid (Qeo w.heap.size Z cap b w1 q (by omega));have r:=hid t;have u:=hid h;have O:Hid (b.length<=1048576):=hid (by omega);have Y:=hid G;clear t h q o H;go_wp2_with fail;refine m.mono ?_;rintro e K ⟨rfl,j,A,E,s,p⟩;have Q:=hid s;have M:=hid (r.grown p r.size (fun k e=>by injection e with e;have:=Y.out;omega));have z:=hid A;have V:=hid E;clear s p A E m;go_wp2_with fail;go_ret;refine⟨_,j,rfl,Qdb (z.nodup_iff.2 u.1) V.out,fun x=>by rw [z.mem_iff];exact u.2 x,by rw [z.length_eq];exact O.out,?_,M.out⟩;rw [z.length_eq];exact Q.out
theorem Qfi (n l Bm:Nat)(J:List Ky ->World ->Prop)(W:World)(hJ:AbidesFrom W.heap.size J)(hm:W.cell? ⟨Bm,0,none⟩=some (.map none))(h0:J [] W):
  CallsIn Fence.wide n Tryz.prog 106 #[.func (.yield l) #[] #[],.pointer (some ⟨Bm,0,none⟩)] W fun e W'=>(∃v,e=.returned v)/\∃ss:List Ky,QdA (fun _=>(none:Option (Nat×Nat))) ss/\ J ss W':=by
 have k:=run_range_nilMap (P:=Tryz.prog) W 50 113 53 Tryz.underlying50;have j:∀ty,(Instr.next (.pointer (some ⟨W.heap.size,0,none⟩)) false ty).run Tryz.prog (W.alloc (.mapIter none 0 #[] 0))=_:=fun ty=>run_next_nilMap _ ty 0 0 #[];refine callsIn_of_wp Tryz.func106 rfl trivial ?_ rfl;simp only [Tryz.ntmps106,List.size_toArray,List.length_cons,List.length_nil,Nat.reduceAdd,Nat.reduceSub,Array.replicate_succ,Array.replicate_zero,List.push_toArray,List.append_toArray,List.nil_append,List.cons_append];gi_wp2
 refine wpIn_loop_rounds 1 ?_;rw [roundsIn_succ];gi_wp2
 go_end0;exact⟨⟨_,rfl⟩,[],⟨List.nodup_nil,fun x=>by simp⟩,hJ [] W _ none h0 (World.grownBy_alloc W _ none) (fun r e=>by cases e)⟩
theorem QgC (mb:Option Nat)(w:World):Calls Tryz.prog 76 #[.map mb] w fun e w'=>e=.returned (.func (.func 106) #[] #[.pointer (some ⟨w.heap.size,0,none⟩)])/\ w'=w.alloc (.cells #[.map mb] 50):=by
 go_enter Tryz.func76,Tryz.ntmps76;go_wp2_with fail;go_ret;exact⟨rfl,rfl⟩
def Qjc (N:List Ky ->Option (Nat×Nat))(p:List Ky)(y:Ky):Option (Nat×Nat):=N (p++[y])
theorem Qc6 (B c:Nat)(N:List Ky ->Option (Nat×Nat))(M:List Ky ->Dt ->Option ByteArray)(p:List Ky)(w:World)(hT:Tre w B N M c)(hc:c<=1048576):
  Calls Tryz.prog 42 #[.agg #[.map (mF (N p)),.map (mS (N p))]] w fun e w'=>∃(v:Value) (j:List Ky),e=.returned v/\ j.Pairwise (fun x y=>QbA x y<0)/\ (∀x,x∈j↔Qjc N p x≠none)/\ j.length<=1048576/\ w'.ownsRow w.heap.size 113 2 v j.length (kRow j)/\ RowKit.Below w.heap.size w w':=by
 obtain⟨m,t⟩:∃u,mF (N p)=u:=⟨_,rfl⟩;obtain⟨L,K⟩:∃u,mS (N p)=u:=⟨_,rfl⟩;rw [t,K];have A:Hid (∀w1,RowKit.Below w.heap.size w w1 ->∀Bm,Bm<w1.heap.size ->w1.cell? ⟨Bm,0,none⟩=some (.map m) ->∃n,n<=1048576/\ SeqGives Fence.wide 4 Tryz.prog 106 #[.pointer (some ⟨Bm,0,none⟩)] Qbr (QdA (Qjc N p)) n w1):=hid (fun w1 h Bm hBm k=>by
  cases e:N p with
  | some x=>
   obtain⟨D,V⟩:=(hT.below h).kids p x e;have:m=some x.1:=by rw [<- t,e];rfl
   rw [this] at k;exact⟨Maps.size D,Nat.le_trans V.own.size_le hc,QcZ Bm x.1 c _ D w1 hBm k V⟩
  | none=>
   have:m=none:=by rw [<- t,e];rfl
   rw [this] at k;refine⟨0,by omega,fun l J W q hJ hY h0=> ?_⟩;have R:Qjc N p=fun _=>none:=funext fun y=>hT.up p y e;rw [R];exact Qfi 4 l Bm J W hJ ((q.cell (p:=⟨Bm,0,none⟩) hBm).trans k) h0)
 obtain⟨W,q⟩:∃W,w.alloc (.cells #[.map m,.map L] 53)=W:=⟨_,rfl⟩;have Q:RowKit.Below w.heap.size w W:=by rw [<- q];exact zO _ _
 have O:Bx2 W w.heap.size (.map m) (.map L):=by rw [<- q];exact Bx2.made _ _ _ _
 have k0:=O.c0;have s:=hid Q;clear hT Q O t K;go_enter Tryz.func42,Tryz.ntmps42;go_wp2_with fail;try rw [q]
 clear q;refine(QgC m W).mono ?_;rintro e w1 ⟨rfl,o⟩;have h:RowKit.Below W.heap.size W w1:=by rw [o];exact zO _ _
 have U:w1.cell? ⟨W.heap.size,0,none⟩=some (.map m):=by rw [o];simp
 have X:W.heap.size<w1.heap.size:=by rw [o];simp
 have z:=hid (s.trans (h.mono s.size));obtain⟨n,T,I⟩:=A w1 z.out W.heap.size X U;have E:=hid (Qc5 _ _ (enters_of Tryz.func106 (by kernel_rfl) rfl) n (Qjc N p) w1 T I);clear I o h U X k0 A;go_wp2_with fail;refine E.mono ?_;rintro e w2 ⟨v,j,rfl,H,k,Z,G,Y⟩;have i:=hid (And.intro H (And.intro k Z));have C:=hid (z.trans (Y.mono z.size));have F:Hid (w2.ownsRow w.heap.size 113 2 v j.length (kRow j)):=hid (by
  obtain⟨q1,b⟩:=G;refine⟨q1,?_⟩;rcases b with b|⟨g,cap,P,e,S,r⟩
  ·exact .inl b
  ·exact .inr ⟨g,cap,P,e,Nat.le_trans z.size S,r⟩)
 clear H k Z G Y E;go_wp2_with fail;go_ret;exact⟨v,j,rfl,i.1,i.2.1,i.2.2,F.out,C.out⟩
end Go.Proofs.YtjdcfkmhmnblbaaGreatDoor
namespace Go.Proofs.YtjdcfkmhmnblbaaGreatDoor.Ds
open Go.ChangeShapes Go.WideShapes Go.ChangeAt Go.RowKit Go.Maps Go.Sort Go.Lib Go.Shelf
theorem QgD (n l Bm b nn:Nat)(f:Dt ->Option ByteArray)(D0:DataW Value)(J:List Dt ->World ->Prop)(hn:1<=n)
  (hY:∀pre x W,J pre W ->pre.length<Maps.size D0 ->YieldAt Fence.wide (n - 1) Tryz.prog l #[dtV x] W fun e W'=>e=.returned (.bool true)/\ J (pre++[x]) W'/\ KeepsWalks W W')
  (W:World) (hJ:AbidesFrom W.heap.size J) (hm:W.cell? ⟨Bm,0,none⟩=some (.map (some b))) (hF:FM W 75 dtV QeC b nn f D0) (h0:J [] W):
  CallsIn Fence.wide n Tryz.prog 128 #[.func (.yield l) #[] #[],.pointer (some ⟨Bm,0,none⟩)] W fun e W'=>(∃v,e=.returned v)/\∃j,QdA f j/\ J j W':=by
 have P:=hF.own;have z:=hid hF;have h:=hid hJ;have V:=hid hY;clear hF hJ hY;refine callsIn_of_wp Tryz.func128 rfl trivial ?_ rfl;simp only [Tryz.ntmps128,List.size_toArray,List.length_cons,List.length_nil,Nat.reduceAdd,Nat.reduceSub,Array.replicate_succ,Array.replicate_zero,List.push_toArray,List.append_toArray,List.nil_append,List.cons_append];gi_wp2_with (first
  | (gi_at_range;refine wpListIn_range_own _ rfl _ 51 rfl 75 107 QaF Tryz.underlying51 _ b nn _ rfl P ?_;intro w0 R L He)
  | gi_in)
 try go_frame
 gi_loopw [3] (fun _ wr=>∃(i:Lit ->Bool) (t:Nat) (j:List Dt),wr.ranges Tryz.prog 75 Qi3 b W.heap.size nn D0 i t/\ j.length+t<=Maps.size D0/\ Qd9 75 dtV f i j/\ J j wr)
  (fun _ wr=>wr.rangeLeft b W.heap.size)
 case atStart=>exact⟨_,_,[],R,by simp,Qd9.start z.out,h.out [] W w0 none h0 L (fun r e=>by cases e)⟩
 case round=>
  obtain⟨i,t,j,o,O,A,E⟩:=hrel;have p:=hid A;have s:=hid O;clear A O;gi_wp2_with (first
   | (gi_at_next;refine wpListIn_next_ranges _ rfl _ rfl 75 QaF Qi3 dtV id (fun key kl hk=>QiY hk) (fun v _ _=>⟨v,rfl⟩) b W.heap.size nn _ _ _ rfl o ?_ ?_)
   | gi_in)
  ·intro Hd C;gi_wp2
   go_end0;exact⟨⟨_,rfl⟩,j,p.done z.out C,E⟩
  ·intro u q c kl yd yp k Y B D hv I S F N T K;have Z:J j k:=h j wr k (some W.heap.size) E N (fun r e=>by cases e;exact⟨Nat.le_refl _,o.iter_walk⟩);obtain⟨m,y⟩:∃m,k.alloc (.cells #[.int .i64 u,.int .i64 q] 75)=m:=⟨_,rfl⟩;have G:J j m:=by rw [<- y];exact h j k _ none Z (World.grownBy_alloc k _ none) (fun r e=>by cases e)
   obtain⟨fn,Hc,Ha,Hb,hy,M⟩:=V j (u,q) m G (by have:=s.out;omega);have g:Bx2 m k.heap.size (.int .i64 u) (.int .i64 q):=by rw [<- y];exact Bx2.made _ _ _ _
   have Q:=S.alloc (.cells #[.int .i64 u,.int .i64 q] 75);rw [y] at Q;have q0:=g.c0;have q1:=g.c1;clear T g;dsimp only [dtV,Qgm] at K hy M ⊢;gi_wp2
   try rw [y]
   refine M.mono ?_;rintro e W3 ⟨rfl,H,X⟩;gi_wp2
   have U:=Q.of_walks X;go_roundw;case rel=>exact⟨_,Y,j++[(u,q)],U,by have:=s.out;simp;omega,p.step z.out QaF (fun _ _=>Qgx) B D I,H⟩
   case measure=>rw [U.left_eq,o.left_eq];exact F
def kCells (x:Dt):List Value:=[.int .i64 x.1,.int .i64 x.2]
def kRow (ss:List Dt):List Value:=ss.flatMap kCells
theorem QdS (ss:List Dt)(x:Dt):kRow (ss++[x])=kRow ss++kCells x:=by simp [kRow]
theorem Qn8:(Tryz.prog.info? 75).map (fun i=>(i.zero,i.size,i.bytes))=some (some (.agg #[.int .i64 0,.int .i64 0]),2,16):=by kernel_rfl
def apA:Code:=(Code.region 2 #[{dst:=some 5,op:=Op.alloc 75,type:=0,pos:= "iter.go:51",after:=#[],guard:=none},{dst:=none,op:=Op.store 75 (Operand.tmp 5) (Operand.tmp 7),type:=0,pos:= "iter.go:51",after:=#[{on:=0,ground:=Ground.data},{on:=0,ground:=Ground.phase}],guard:=none}] false)
def apB:Code:=(Code.block 1 (Code.region 3 #[{dst:=some 8,op:=Op.load 154 (Operand.tmp 2),type:=154,pos:= "iter.go:52",after:=#[],guard:=none},{dst:=some 9,op:=Op.load 75 (Operand.tmp 5),type:=75,pos:= "iter.go:52",after:=#[],guard:=none},{dst:=some 10,op:=Op.buildSlice 154 1 #[(0,Operand.tmp 9)],type:=154,pos:= "iter.go:52",after:=#[{on:=1,ground:=Ground.data}],guard:=none},{dst:=some 11,op:=Op.call {callee:=Callee.builtin Builtin.append,args:=#[Operand.tmp 8,Operand.tmp 10],argTypes:=#[154,154]},type:=154,pos:= "iter.go:52",after:=#[{on:=0,ground:=Ground.data},{on:=2,ground:=Ground.data}],guard:=none},{dst:=none,op:=Op.store 154 (Operand.tmp 2) (Operand.tmp 11),type:=0,pos:= "iter.go:52",after:=#[{on:=3,ground:=Ground.data},{on:=3,ground:=Ground.chain},{on:=0,ground:=Ground.phase},{on:=1,ground:=Ground.phase},{on:=2,ground:=Ground.phase},{on:=3,ground:=Ground.phase}],guard:=none}] false))
def Qbo (fn:FuncId)(sv:Value)(Bs D:Nat)(st:LoopState):Loop:=
 {state:=st,pending:=none,fn,tmps:=#[.slice none 0 0,sv,.pointer (some ⟨Bs,0,none⟩),undef,.slice none 0 0,undef,sv,undef,undef,undef,undef,undef,undef],params:=#[7],assign:=apA,body:=apB,defers:=D}
structure QhW (w0:World)(fn:FuncId)(sv:Value)(Bs l D:Nat)(ss:List Dt)(W:World):Prop where
 box:∃v,W.heap[Bs]? =some (.cells #[v] 154 (0,0))/\ W.ownsRow w0.heap.size 75 2 v ss.length (kRow ss)/\ (v=.slice none 0 0↔ss=[])
 L:W.heap[l]? =some (.loop (Qbo fn sv Bs D .ready))
 K:W.heap[D]? =some (.deferred (some []))
 below:RowKit.Below w0.heap.size w0 W
theorem QbX (w0:World)(fn:FuncId)(sv:Value)(Bs l D B:Nat)(hB:w0.heap.size<=B):AbidesFrom B (QhW w0 fn sv Bs l D):=fun s W W' row h hg hrow=>by
 have j:∀r,row=some r ->∃o:Obj,W.heap[r]? =some o/\ o.isWalk=true:=fun r e=>(hrow r e).2;obtain⟨v,m,u,q⟩:=h.box;exact⟨⟨v,(grownBy_keeps hg j m rfl).trans m,ownsRow_abides_a u hg j,q⟩,(grownBy_keeps hg j h.L rfl).trans h.L,(grownBy_keeps hg j h.K rfl).trans h.K,h.below.grown hg h.below.size (fun k e=>Nat.le_trans hB (hrow k e).1)⟩
theorem QeO (m:Nat)(w0:World)(fn:FuncId)(sv:Value)(Bs l D:Nat)(hBl:Bs≠l)(hDl:D≠l)(hDB:D≠Bs)(h0B:w0.heap.size<=Bs)(h0l:w0.heap.size<=l)
    (N:Nat) (hN:N<=maxLen) (hNb:N*16<=140737488355328) (ss:List Dt) (x:Dt) (W:World) (h:QhW w0 fn sv Bs l D ss W) (hlen:ss.length<N):
    YieldAt Fence.wide m Tryz.prog l #[dtV x] W fun e W'=>e=.returned (.bool true)/\ QhW w0 fn sv Bs l D (ss++[x]) W'/\ KeepsWalks W W':=by
  have Hj:154≠75:=by decide
  obtain⟨i0,hi,Ht,Hu,Hv⟩:=info_parts Qn8;refine⟨fn,#[.slice none 0 0,sv,.pointer (some ⟨Bs,0,none⟩),undef,.slice none 0 0,undef,sv,dtV x,undef,undef,undef,undef,undef],apA,apB,by simpa [Qbo] using run_yield (P:=Tryz.prog) (args:=#[dtV x]) h.L rfl,roundIn_of_wpIn trivial ?_⟩;obtain⟨s,p⟩:=x;obtain⟨y,X⟩:∃y,W.alloc (.cells #[.int .i64 s,.int .i64 p] 75)=y:=⟨_,rfl⟩;have z:QhW w0 fn sv Bs l D ss y:=by rw [<- X];exact QbX w0 fn sv Bs l D w0.heap.size zL ss W _ none h (World.grownBy_alloc W _ none) (fun r e=>by cases e)
  have Hi:KeepsWalks W y:=by rw [<- X];exact KeepsWalks.alloc _ _
  have E:Bx2 y W.heap.size (.int .i64 s) (.int .i64 p):=by rw [<- X];exact Bx2.made _ _ _ _
  have H0:l<W.heap.size:=(Array.getElem?_eq_some_iff.1 h.L).1;obtain⟨v,hv,C,_⟩:=z.box;have hl:l<y.heap.size:=(Array.getElem?_eq_some_iff.1 z.L).1;have Hm:=run_beginRound (P:=Tryz.prog) z.L rfl;obtain⟨q,i⟩:∃q,y.putObj l (.loop {Qbo fn sv Bs D .ready with state:=.busy})=q:=⟨_,rfl⟩;rw [i] at Hm;have U:y.grownBy q (some l):=by rw [<- i];exact grownBy_putObj_a _ _ _
  have Ho:KeepsWalks W q:=Hi.trans (by rw [<- i];exact KeepsWalks.putObj _ z.L rfl);have Z:q.heap[Bs]? =some (.cells #[v] 154 (0,0)):=by rw [<- i];exact(World.putObj_heap_other hBl).trans hv
  have I:q.heap[D]? =some (.deferred (some [])):=by rw [<- i];exact(World.putObj_heap_other hDl).trans z.K
  have J:q.heap[l]? =some (.loop {Qbo fn sv Bs D .ready with state:=.busy}):=by rw [<- i];exact World.putObj_heap_same hl
  have F:q.ownsRow w0.heap.size 75 2 v ss.length (kRow ss):=C.kept U (ownsRow_ne_a C z.L (fun cur e=>by cases e));have Q:RowKit.Below w0.heap.size w0 q:=z.below.grown U z.below.size (fun k e=>by cases e;exact h0l);have H:q.heap[W.heap.size]? =y.heap[W.heap.size]? :=U.block _ E.lt (fun e=>by injection e with e;omega);have q0:q.cell? ⟨W.heap.size,0,none⟩=some (.int .i64 s):=(World.cell?_of_block (a:=⟨W.heap.size,0,none⟩) H).trans E.c0;have q1:q.cell? ⟨W.heap.size,1,none⟩=some (.int .i64 p):=(World.cell?_of_block (a:=⟨W.heap.size,1,none⟩) H).trans E.c1;obtain⟨Hw,Hy⟩:=cell_of_box_a Z;have Hb:Bs<q.heap.size:=(Array.getElem?_eq_some_iff.1 Z).1;have Hq:l<q.heap.size:=(Array.getElem?_eq_some_iff.1 J).1;have Hc:D<q.heap.size:=(Array.getElem?_eq_some_iff.1 I).1;have ne_of:∀{j:Nat} {o:Obj},q.heap[j]? =some o ->(∀cur,o≠.cells cur 75 (0,0)) ->some j≠v.ownBlock:=fun hj hno=>by
    rcases ownsRow_ne_a F hj hno with e|e
    · rw [e];simp
    · exact fun e'=>e e'.symm
  have G:=hid F;have HZ:=hid Q.size;clear i C F E H U Hi;unfold apA;dsimp only [dtV,Qgm];gi_wp2_with gi_round_op_a
  unfold apB;gi_wp2_with (first
    | (gi_at_builtin;refine wpListIn_append_own _ rfl _ _ 154 rfl w0.heap.size 75 i0 (.agg #[.int .i64 0,.int .i64 0]) 2 16 Tryz.underlying154 hi Ht Hu Hv rfl (by decide) _ _ _ rfl (G.alloc _) ⟨q.heap.size,0,none⟩ 1 1 [.int .i64 s,.int .i64 p] rfl rfl (cell_two_new _ _ _ _) (by simp [Value.oneCell']) (by omega) (by omega) (by have:=HZ.out;simp;omega) ?_;intro v' g B Hh Hk
       have R:g.heap[Bs]? =some (.cells #[v] 154 (0,0)):=(Hh.block Bs (by simp;omega) (ne_of Z (fun cur e=>Hj (Obj.cells.inj e).2.1))).trans ((Below.heap_alloc _ _ Bs Hb).trans Z)
       obtain⟨Hx,Hz⟩:=cell_of_box_a R
       obtain⟨b,t,M,rfl,Hd,Hn,H1,H2,H3,H4⟩:∃b t M,v'=.slice (some ⟨b,0,none⟩) (ss.length+1) t/\ w0.heap.size<=b/\ g.heap[b]? =some (.cells M 75 (0,0))/\ ss.length+1<=t/\ t<=maxLen/\ M.size=t*2/\ M.toList.take ((ss.length+1)*2)=kRow ss++[.int .i64 s,.int .i64 p]:=by
         rcases B.2 with ⟨_,h0⟩|h'
         · exact absurd h0 (by omega)
         · exact h'
       have S:=hid B
       clear B
       try go_frame)
    | gi_round_op_a)
  have V:(q.alloc (.cells #[.int .i64 s,.int .i64 p] 75)).grownBy g v.ownBlock:=Hh;have He:g.heap[l]? =some (.loop {Qbo fn sv Bs D .ready with state:=.busy}):=(V.block l (by simp;omega) (ne_of J (fun cur e=>by cases e))).trans ((Below.heap_alloc _ _ l Hq).trans J);have T:g.heap[D]? =some (.deferred (some [])):=(V.block D (by simp;omega) (ne_of I (fun cur e=>by cases e))).trans ((Below.heap_alloc _ _ D Hc).trans I);obtain⟨u,A⟩:∃u,g.setCell ⟨Bs,0,none⟩ (.slice (some ⟨b,0,none⟩) (ss.length+1) t)=u:=⟨_,rfl⟩;rw [A];have Y:g.grownBy u (some Bs):=by rw [<- A];exact grownBy_setCell0_a _ _ _
  have Hs:u.heap[Bs]? =some (.cells #[.slice (some ⟨b,0,none⟩) (ss.length+1) t] 154 (0,0)):=by rw [<- A];exact heap_setCell_box_a _ R
  have O:u.heap[l]? =some (.loop {Qbo fn sv Bs D .ready with state:=.busy}):=(Y.block l (Array.getElem?_eq_some_iff.1 He).1 (fun e=>hBl (by cases e;rfl))).trans He;have Hl:u.heap[D]? =some (.deferred (some [])):=(Y.block D (Array.getElem?_eq_some_iff.1 T).1 (fun e=>hDB (by cases e;rfl))).trans T;have Ha:=S.kept Y (ownsRow_ne_a S.out R (fun cur e=>Hj (Obj.cells.inj e).2.1));have Hr:l<u.heap.size:=(Array.getElem?_eq_some_iff.1 O).1;have Hf:RowKit.Below w0.heap.size w0 g:=(Q.alloc Q.size _).grown V (by have:=Q.size;simp;omega) (fun k e=>(G.lt k e).1);have Hg:RowKit.Below w0.heap.size w0 u:=Hf.grown Y Hf.size (fun k e=>by cases e;exact h0B);have Hp:KeepsWalks W u:=((Ho.trans (KeepsWalks.alloc _ _)).trans (KeepsWalks.of_grownBy V (ownsRow_not_walk_a (G.alloc _)))).trans (by rw [<- A];exact KeepsWalks.setCell _ _ _);clear A;refine⟨_,_,run_endRound none O,rfl,⟨⟨_,(World.putObj_heap_other hBl).trans Hs,?_,by simp⟩,World.putObj_heap_same Hr,(World.putObj_heap_other hDl).trans Hl,Hg.grown (grownBy_putObj_a _ _ _) Hg.size (fun k e=>by cases e;exact h0l)⟩,Hp.trans (KeepsWalks.putObj _ O rfl)⟩;have:=Ha.kept (grownBy_putObj_a u l (.loop {{Qbo fn sv Bs D .ready with state:=.busy} with state:=if (none:Option Code).isNone then .ready else .done,pending:=none})) (ownsRow_ne_a Ha O (fun cur e=>by cases e));rw [QdS];simpa [kCells] using this
theorem QcS (n:Nat)(hn:2<=n)(g:Nat)(lb:Array Value)(eg:∀args w,(callFunc g args).run Tryz.prog w=.ok (.enter g args) w)
  (S:List Dt ->Prop) (N:Nat) (hN:N<=maxLen) (hNb:N*16<=140737488355328) (w:World) (hseq:SeqGives Fence.wide (n - 1) Tryz.prog g lb dtV S N w):
  CallsIn Fence.wide n Tryz.prog 152 #[.slice none 0 0,.func (.func g) #[] lb] w fun e w'=>∃(v:Value) (y:List Dt),e=.returned v/\ S y/\ w'.ownsRow w.heap.size 75 2 v y.length (kRow y)/\ (v=.slice none 0 0↔y=[])/\ RowKit.Below w.heap.size w w':=by
 have F:154≠75:=by decide
 refine callsIn_of_wp_marks Tryz.func152 rfl trivial ?_ rfl;simp only [Tryz.ntmps152,List.size_toArray,List.length_cons,List.length_nil,Nat.reduceAdd,Nat.reduceSub,Array.replicate_succ,Array.replicate_zero,List.push_toArray,List.append_toArray,List.nil_append,List.cons_append];gi_wp2
 refine wpIn_rangeFunc ?_;intro r D;obtain⟨j,t⟩:∃j,w.alloc (.cells #[.slice none 0 0] 154)=j:=⟨_,rfl⟩;have G:j.heap.size=w.heap.size+1:=by rw [<- t];simp
 have I:j.heap[w.heap.size]? =some (.cells #[.slice none 0 0] 154 (0,0)):=by rw [<- t];exact World.alloc_heap_new w _
 have o:RowKit.Below w.heap.size w j:=by rw [<- t];exact(RowKit.Below.refl _ w).alloc zL _
 rw [t];obtain⟨m,z⟩:∃m,(j.alloc (.deferred (some []))).alloc (.loop (Qbo r (.func (.func g) #[] lb) w.heap.size j.heap.size .ready))=m:=⟨_,rfl⟩;have Z:∀k,k<j.heap.size ->m.heap[k]? =j.heap[k]? :=fun k hk=>by
  rw [<- z];exact(Below.heap_alloc _ _ k (by simp;omega)).trans (Below.heap_alloc _ _ k hk)
 have i:RowKit.Below w.heap.size w m:=by rw [<- z];exact(o.alloc o.size _).alloc (by have:=o.size;simp;omega) _
 have U:QhW w r (.func (.func g) #[] lb) w.heap.size (j.heap.size+1) j.heap.size [] m:=
  ⟨⟨_,(Z w.heap.size (by omega)).trans I,⟨rfl,.inl ⟨rfl,rfl⟩⟩,by simp⟩,
   by rw [<- z];have:=World.alloc_heap_new (j.alloc (.deferred (some []))) (.loop (Qbo r (.func (.func g) #[] lb) w.heap.size j.heap.size .ready));rwa [World.size_alloc] at this,
   by rw [<- z];exact(Below.heap_alloc _ _ _ (by simp)).trans (World.alloc_heap_new j _),i⟩
 refine⟨j.heap.size+1,[{target:=.collected j.heap.size,args:=#[]}],m,{target:=.fn (.func g) lb,args:=#[.func (.yield (j.heap.size+1)) #[] #[]]},m,g,
  #[.func (.yield (j.heap.size+1)) #[] #[]]++lb,m,?_,?_,?_,?_,fun _=>by omega,?_⟩
 ·rw [<- z];exact run_enterLoop_outer _ _ _ _ _
 ·simp [resolve,go_sem]
 ·intro f' B;trivial
 ·simp [invoke,go_sem,eg]
 ·refine(hseq (j.heap.size+1) (QhW w r (.func (.func g) #[] lb) w.heap.size (j.heap.size+1) j.heap.size) m i (QbX _ _ _ _ _ _ _ i.size)
   (fun pre x W hJ hl=>QeO (n - 1 - 1) w r _ w.heap.size (j.heap.size+1) j.heap.size (by omega) (by omega) (by omega) zL (by omega) N hN hNb pre x W hJ hl) U).mono ?_
  rintro e s ⟨⟨R,rfl⟩,y,V,u⟩;obtain⟨v,H,b,Y⟩:=u.box;have M:=run_endLoop (P:=Tryz.prog) u.L (by simp [Qbo]);obtain⟨q,h⟩:∃q,s.putObj (j.heap.size+1) (.loop {Qbo r (.func (.func g) #[] lb) w.heap.size j.heap.size .ready with state:=.exhausted})=q:=⟨_,rfl⟩;rw [h] at M;have O:s.grownBy q (some (j.heap.size+1)):=by rw [<- h];exact grownBy_putObj_a _ _ _
  have J:q.heap[w.heap.size]? =some (.cells #[v] 154 (0,0)):=by rw [<- h];exact(World.putObj_heap_other (by omega)).trans H
  have A:q.heap[j.heap.size]? =some (.deferred (some [])):=by rw [<- h];exact(World.putObj_heap_other (by omega)).trans u.K
  have Q:=b.kept O (ownsRow_ne_a b u.L (fun cur e=>by cases e));have E:RowKit.Below w.heap.size w q:=u.below.grown O u.below.size (fun k e=>by cases e;omega);obtain⟨X,C⟩:=cell_of_box_a J;have p:=hid Q;clear h b Q;refine⟨none,q,M,?_⟩;gi_wp2
  rw [<- G];refine⟨by simp,.inl ⟨_,_,rfl,run_takeDeferred A,?_⟩⟩;exact⟨_,results_tmp rfl _ _ _,v,y,rfl,V,p.kept (grownBy_putObj_a _ _ _) (ownsRow_ne_a p.out A (fun cur e=>by cases e)),Y,E.grown (grownBy_putObj_a _ _ _) E.size (fun k e=>by cases e;omega)⟩
theorem QeU (g:Nat)(lb:Array Value)(eg:∀args w,(callFunc g args).run Tryz.prog w=.ok (.enter g args) w)
  (S:List Dt ->Prop) (N:Nat) (hN:N<=maxLen) (hNb:N*16<=140737488355328) (w:World) (hseq:SeqGives Fence.wide 4 Tryz.prog g lb dtV S N w):
  Calls Tryz.prog 126 #[.func (.func g) #[] lb] w fun e w'=>∃(v:Value) (j:List Dt),e=.returned v/\ S j/\ w'.ownsRow w.heap.size 75 2 v j.length (kRow j)/\ (v=.slice none 0 0↔j=[])/\ RowKit.Below w.heap.size w w':=by
 have m:=hid ((callsIn_wide (n:=5)).1 (QcS 5 (by omega) g lb eg S N hN hNb w hseq));go_enter Tryz.func126,Tryz.ntmps126;go_wp2_with fail;refine m.mono ?_;rintro e w' ⟨v,j,rfl,q,y,u,r⟩;have k:=hid (And.intro q (And.intro y (And.intro u r)));clear q y u r m;go_wp2_with fail;go_ret;exact⟨v,j,rfl,k.1,k.2.1,k.2.2.1,k.2.2.2⟩
theorem QcZ (Bm b nn:Nat)(f:Dt ->Option ByteArray)(D0:DataW Value)(w:World)(hBm:Bm<w.heap.size)(hm:w.cell? ⟨Bm,0,none⟩=some (.map (some b)))(hF:FM w 75 dtV QeC b nn f D0):
  SeqGives Fence.wide 4 Tryz.prog 128 #[.pointer (some ⟨Bm,0,none⟩)] dtV (QdA f) (Maps.size D0) w:=fun l J W hW hJ hY h0=>by
 have j:FM W 75 dtV QeC b nn f D0:=⟨QbN hF.own (hW.block b hF.own.lt),hF.at',hF.cov,hF.ok⟩;exact QgD 4 l Bm b nn f D0 J (by omega) hY W hJ ((hW.cell (p:=⟨Bm,0,none⟩) hBm).trans hm) j h0
theorem Qca (x y:Dt)(w:World):Calls Tryz.prog 103 #[.agg #[.int .i64 x.1,.int .i64 x.2],.agg #[.int .i64 y.1,.int .i64 y.2]] w fun e w'=>e=.returned (.int .i64 (Qbh x y))/\ Bw w w':=by
 obtain⟨s,k⟩:=x;obtain⟨q,m⟩:=y;dsimp only;obtain⟨W,u⟩:∃W,(w.alloc (.cells #[.int .i64 s,.int .i64 k] 75)).alloc (.cells #[.int .i64 q,.int .i64 m] 75)=W:=⟨_,rfl⟩;have b:Bw w W:=by rw [<- u];exact⟨Qak _ _ _,Nat.le_refl _⟩
 have t:Bx2 W w.heap.size (.int .i64 s) (.int .i64 k):=by rw [<- u];exact(Bx2.made w _ _ _).allocs _
 have o:Bx2 W (w.heap.size+1) (.int .i64 q) (.int .i64 m):=by rw [<- u];simpa using Bx2.made (w.alloc (.cells #[.int .i64 s,.int .i64 k] 75)) (.int .i64 q) (.int .i64 m) 75
 have v:=hid b;have h:=hid t;have g:=hid o;clear b t o;go_enter Tryz.func103,Tryz.ntmps103;go_wp2_with fail;try rw [u]
 clear u;have z:Hid (∀w',Bw W w' ->(Bw W w'/\ w'.cell? ⟨w.heap.size,0,none⟩=some (.int .i64 s)/\ w'.cell? ⟨w.heap.size,1,none⟩=some (.int .i64 k)/\ w'.cell? ⟨w.heap.size+1,0,none⟩=some (.int .i64 q)/\ w'.cell? ⟨w.heap.size+1,1,none⟩=some (.int .i64 m))):=hid (fun w' r=>by
  have x0:=h.below r.1 h.lt;have p:=g.below r.1 g.lt;exact⟨r,x0.c0,x0.c1,p.c0,p.c1⟩)
 refine zR (S:=fun w'=>Bw W w'/\ w'.cell? ⟨w.heap.size,0,none⟩=some (.int .i64 s)/\ w'.cell? ⟨w.heap.size,1,none⟩=some (.int .i64 k)/\ w'.cell? ⟨w.heap.size+1,0,none⟩=some (.int .i64 q)/\ w'.cell? ⟨w.heap.size+1,1,none⟩=some (.int .i64 m)) (z _ ⟨zI.drew,Nat.le_succ _⟩) (fun qh=> ?_);refine tZ 0 5 ?_;refine tZ 1 6 ?_;refine tZ 2 7 ?_;refine tZ 3 8 ?_;refine tZ 5 10 ?_;refine tZ 6 11 ?_;refine tZ 7 12 ?_;refine tZ 8 13 ?_;refine cZ 4 ?_;intro K j;go_simp;refine(QbZ s q _).mono ?_;rintro e w1 ⟨rfl,rfl⟩;refine j.out _ _ qh (fun qh=> ?_);clear j K;try simp only [zP]
 refine cZ 9 ?_;intro K j;go_simp;refine(QbZ k m _).mono ?_;rintro e E ⟨rfl,rfl⟩;refine j.out _ _ qh (fun qh=> ?_);clear j K;try simp only [zP]
 refine cZ 10 ?_;intro K j;go_simp;have r:Bw W (W.drew.alloc (.cells #[.int .i64 (QaV s q),.int .i64 (QaV k m)] 3)):=⟨qh.1.1.alloc qh.1.1.size _,qh.1.2⟩;refine j.out _ _ (z _ r) (fun qh=> ?_);clear j K;try simp only [zP]
 refine cZ 11 ?_;intro K j;go_simp;refine(QiA _ 2 2 (fun i=>if i=0 then QaV s q else QaV k m) _ (by omega) (fun i hi=> ?_)).mono ?_
 ·match i,hi with
  | 0,_=>simp
  | 1,_=>simp
 rintro e M ⟨rfl,rfl⟩;refine j.out _ _ qh (fun qh=> ?_);clear j K;try simp only [zP]
 refine tZ 12 4 ?_;refine zD ?_;have A:Hid (Bw w (W.drew.alloc (.cells #[.int .i64 (QaV s q),.int .i64 (QaV k m)] 3))):=hid ⟨v.1.trans (qh.1.1.mono v.1.size),Nat.le_trans v.2 qh.1.2⟩;clear qh r;go_wp2_with fail;go_ret;exact⟨QbE nz2,A.out⟩
theorem QbC (x:Dt):(kCells x).length=2:=rfl
theorem Qbk (ss:List Dt):(kRow ss).length=ss.length*2:=by
 induction ss with
 | nil=>rfl
 | cons x r ih=>simp only [kRow,List.flatMap_cons,List.length_append,List.length_cons] at*;rw [ih,QbC];omega
theorem kRow_get:∀(ss:List Dt) (t:Nat),t<ss.length*2 ->(kRow ss)[t]? =some ((kCells ss.toArray[t/2]!)[t%2]!)
 | [],t,h=>by simp at h
 | x::r,t,h=>by
  rcases Nat.lt_or_ge t 2 with q|q
  ·have:t=0 \/t=1:=by omega
   rcases this with rfl|rfl<;>simp [kRow,kCells]
  ·obtain⟨u,rfl⟩:∃u,t=u+2:=⟨t - 2,by omega⟩;have y:=kRow_get r u (by simp at h;omega);have j:(u+2)/2=u/2+1:=by omega
   have k:(u+2)%2=u%2:=by omega
   rw [j,k];have v:u/2<r.length:=by simp at h;omega
   have m:(x::r).toArray[u/2+1]! =r.toArray[u/2]! :=by
    rw [getElem!_pos _ _ (by simp;omega),getElem!_pos _ _ (by simpa using v)];simp
   rw [m,<- y];simp [kRow,kCells]
theorem QdH (ss:List Dt):(flatK kCells 2 ss.toArray).toList=kRow ss:=by
 apply List.ext_getElem?;intro t;by_cases h:t<ss.length*2
 ·rw [kRow_get ss t h];have j:t<(flatK kCells 2 ss.toArray).size:=by simpa using h
  have:=get_flatK kCells 2 ss.toArray t (by simpa using h);rw [getElem!_pos _ t j] at this;rw [Array.getElem?_toList,Array.getElem?_eq_getElem j,this]
 ·rw [List.getElem?_eq_none (by simp;omega),List.getElem?_eq_none (by rw [Qbk];omega)]
theorem Qcb {w:World}{g n:Nat}{os:Array Obj}{cur:Array Value}{e:TypeId}{fr:Nat×Nat}(d:Array Value)(hb:w.heap[g]? =some (.cells cur e fr)):
  (grow (putRow id (Sort.ahead w n) g 0 d) os).heap[g]? =some (.cells (putCells id 0 d cur) e fr):=by
 have j:g<w.heap.size:=(Array.getElem?_eq_some_iff.1 hb).1;rw [heap_grow_old _ _ (by simpa [putRow,mapBlock,Sort.ahead] using j)];simp [putRow,mapBlock,Sort.ahead,Array.getElem?_modify,hb,onCells]
theorem Qbq {w:World}{g n:Nat}{os:Array Obj}(d:Array Value):w.grownBy (grow (putRow id (Sort.ahead w n) g 0 d) os) (some g):=by
 refine⟨rfl,rfl,rfl,by simp [grow,putRow,mapBlock,Sort.ahead],fun k hk hne=> ?_⟩;rw [heap_grow_old _ _ (by simpa [putRow,mapBlock,Sort.ahead] using hk)];have:g≠k:=fun e=>hne (by rw [e]);simp [putRow,mapBlock,Sort.ahead,Array.getElem?_modify,this]
theorem Qes (cur:Array Value)(ts:List Value)(h:ts.length<=cur.size):(putCells id 0 ts.toArray cur).toList.take ts.length=ts:=by
 apply List.ext_getElem?;intro j;by_cases k:j<ts.length
 ·rw [List.getElem?_take_of_lt k,Array.getElem?_toList];simp [putCells,k,show j<cur.size by omega]
 ·rw [List.getElem?_take_eq_none (by omega),List.getElem?_eq_none (by omega)]
theorem Qgy:∀args w,(callFunc 103 args).run Tryz.prog w=.ok (.enter 103 args) w:=enters_of Tryz.func103 (by kernel_rfl) rfl
theorem QeS (blk off size:Nat)(w:World):CmpLays Tryz.prog 103 #[] kCells 2 Qbh blk off size w:=fun m os dk _ x y=>
 (Qca x y _).mono fun e w' ⟨he,hb⟩=>⟨he,hb.grown⟩
theorem Qeo (B blk cap:Nat)(ss:List Dt)(w:World)(ho:w.ownsRow B 75 2 (.slice (some ⟨blk,0,none⟩) ss.length cap) ss.length (kRow ss))(hsz:ss.length<=1048576):
  Calls Tryz.prog 127 #[.slice (some ⟨blk,0,none⟩) ss.length cap,.func (.func 103) #[] #[]] w fun e w'=>e=.returned (.tuple #[])/\∃ts:List Dt,ts.Perm ss/\ SortedIn (ltOf Qbh) 0 ts.length ts.toArray/\ w'.ownsRow B 75 2 (.slice (some ⟨blk,0,none⟩) ss.length cap) ss.length (kRow ts)/\ w.grownBy w' (some blk):=by
 rcases ho.2 with ⟨o,_⟩|⟨Y,V,z,q,E,m,i,b,p,s⟩
 ·cases o
 cases q;have M:blk<w.heap.size:=(Array.getElem?_eq_some_iff.1 m).1;have A:HoldsK kCells 2 w blk 0 ss.toArray:=by
  intro t U;have y:t<ss.length*2:=by simpa using U
  refine⟨?_,by simp [World.frozen?,m]⟩;have k:(z.toList.take (ss.length*2))[t]? =(kRow ss)[t]? :=by rw [s]
  rw [List.getElem?_take_of_lt y,kRow_get ss t y] at k;have r:=get_flatK kCells 2 ss.toArray t (by simpa using y);rw [r];simp only [World.cell?,m,Nat.zero_add,Option.isSome_none,Bool.false_eq_true,if_false];rw [<- Array.getElem?_toList,k];rfl
 have u:=AnyQ.slices_SortFunc Tryz.sortD 2 Tryz.isAgg75 Tryz.sizeOf75 kCells QbC (fun x v q=>by simp [kCells] at q;rcases q with rfl|rfl<;>rfl) Qbh QaG.dot.swo 103 #[] blk 0 cap ss.toArray w Qgy (QeS blk 0 _ w) A M (by simp;omega);change Calls Tryz.prog 127 _ _ _ at u;simp only [List.size_toArray] at u;refine u.mono ?_;rintro e w' ⟨rfl,d',n,Z,h,Q,rfl⟩;have j:d'.size=ss.length:=by simpa using h.1
 have O:d'.toList.Perm ss:=by
  have:=h.2.2;have k:d'.extract 0 ss.length=d':=by rw [<- j];simp
  have r:ss.toArray.extract 0 ss.length=ss.toArray:=by simp
  rw [k,r] at this;simpa using this
 refine⟨rfl,d'.toList,O,by simpa [j] using Q,⟨by rw [Qbk];simp [j],.inr ⟨blk,cap,_,rfl,E,Qcb _ m,i,b,by simp [putCells,p],?_⟩⟩,Qbq _⟩;have g:flatK kCells 2 d'=(kRow d'.toList).toArray:=by
  have:=QdH d'.toList;simp only [Array.toArray_toList] at this;rw [<- this]
 rw [g];have:=Qes z (kRow d'.toList) (by rw [Qbk];simp [j];omega);rw [Qbk] at this;simpa [j] using this
theorem Qdb {ts:List Dt}(h:ts.Nodup)(hs:SortedIn (ltOf Qbh) 0 ts.length ts.toArray):ts.Pairwise (fun x y=>Qbh x y<0):=by
 have:=QaG.dot.rises (d:=ts.toArray) (by simpa using hs) (by simpa using h);simpa using this
theorem Qc5 (g:Nat)(lb:Array Value)(eg:∀args w,(callFunc g args).run Tryz.prog w=.ok (.enter g args) w)(N:Nat)(f:Dt ->Option ByteArray)(w:World)(hN:N<=1048576)(hseq:SeqGives Fence.wide 4 Tryz.prog g lb dtV (QdA f) N w):
  Calls Tryz.prog 101 #[.func (.func g) #[] lb,.func (.func 103) #[] #[]] w fun e w'=>∃(v:Value) (j:List Dt),e=.returned v/\ j.Pairwise (fun x y=>Qbh x y<0)/\ (∀x,x∈j↔f x≠none)/\ j.length<=1048576/\ w'.ownsRow w.heap.size 75 2 v j.length (kRow j)/\ RowKit.Below w.heap.size w w':=by
 have o:=hid (QeU g lb eg _ N (by unfold maxLen;omega) (by omega) w (SeqGives.bounded hseq));go_enter Tryz.func101,Tryz.ntmps101;go_wp2_with fail;refine o.mono ?_;rintro e w1 ⟨v,b,rfl,⟨h,B⟩,q,H,t⟩;rcases q.2 with ⟨rfl,J⟩|⟨Z,cap,L,rfl,G,X,r1,r2,C,D⟩
 ·have I:b=[]:=List.eq_nil_of_length_eq_zero J;subst I;have r:=hid t;have u:=hid h;have U:=hid q;have i:=AnyF.slices_SortFunc_none Tryz.sortD none 0 (.func (.func 103) #[] #[]) w1;change Calls Tryz.prog 127 _ _ _ at i;have m:=hid i;clear t h q o i;go_wp2_with fail;refine m.mono ?_;rintro e K ⟨rfl,rfl⟩;clear m;go_wp2_with fail;go_ret;exact⟨_,[],rfl,List.Pairwise.nil,fun x=>u.2 x,by simp,U.out,r.out⟩
 ·have m:=hid (Qeo w.heap.size Z cap b w1 q (by omega));have r:=hid t;have u:=hid h;have O:Hid (b.length<=1048576):=hid (by omega);have Y:=hid G;clear t h q o H;go_wp2_with fail;refine m.mono ?_;rintro e K ⟨rfl,j,A,E,s,p⟩;have Q:=hid s;have M:=hid (r.grown p r.size (fun k e=>by injection e with e;have:=Y.out;omega));have z:=hid A;have V:=hid E;clear s p A E m;go_wp2_with fail;go_ret;refine⟨_,j,rfl,Qdb (z.nodup_iff.2 u.1) V.out,fun x=>by rw [z.mem_iff];exact u.2 x,by rw [z.length_eq];exact O.out,?_,M.out⟩;rw [z.length_eq];exact Q.out
theorem Qfi (n l Bm:Nat)(J:List Dt ->World ->Prop)(W:World)(hJ:AbidesFrom W.heap.size J)(hm:W.cell? ⟨Bm,0,none⟩=some (.map none))(h0:J [] W):
  CallsIn Fence.wide n Tryz.prog 128 #[.func (.yield l) #[] #[],.pointer (some ⟨Bm,0,none⟩)] W fun e W'=>(∃v,e=.returned v)/\∃ss:List Dt,QdA (fun _=>(none:Option ByteArray)) ss/\ J ss W':=by
 have k:=run_range_nilMap (P:=Tryz.prog) W 51 75 107 Tryz.underlying51;have j:∀ty,(Instr.next (.pointer (some ⟨W.heap.size,0,none⟩)) false ty).run Tryz.prog (W.alloc (.mapIter none 0 #[] 0))=_:=fun ty=>run_next_nilMap _ ty 0 0 #[];refine callsIn_of_wp Tryz.func128 rfl trivial ?_ rfl;simp only [Tryz.ntmps128,List.size_toArray,List.length_cons,List.length_nil,Nat.reduceAdd,Nat.reduceSub,Array.replicate_succ,Array.replicate_zero,List.push_toArray,List.append_toArray,List.nil_append,List.cons_append];gi_wp2
 refine wpIn_loop_rounds 1 ?_;rw [roundsIn_succ];gi_wp2
 go_end0;exact⟨⟨_,rfl⟩,[],⟨List.nodup_nil,fun x=>by simp⟩,hJ [] W _ none h0 (World.grownBy_alloc W _ none) (fun r e=>by cases e)⟩
theorem QgC (mb:Option Nat)(w:World):Calls Tryz.prog 102 #[.map mb] w fun e w'=>e=.returned (.func (.func 128) #[] #[.pointer (some ⟨w.heap.size,0,none⟩)])/\ w'=w.alloc (.cells #[.map mb] 51):=by
 go_enter Tryz.func102,Tryz.ntmps102;go_wp2_with fail;go_ret;exact⟨rfl,rfl⟩
theorem sortedDotsC (B c:Nat)(N:List Ky ->Option (Nat×Nat))(M:List Ky ->Dt ->Option ByteArray)(p:List Ky)(w:World)(hT:Tre w B N M c)(hc:c<=1048576):
  Calls Tryz.prog 73 #[.agg #[.map (mF (N p)),.map (mS (N p))]] w fun e w'=>∃(v:Value) (j:List Dt),e=.returned v/\ j.Pairwise (fun x y=>Qbh x y<0)/\ (∀x,x∈j↔M p x≠none)/\ j.length<=1048576/\ w'.ownsRow w.heap.size 75 2 v j.length (kRow j)/\ RowKit.Below w.heap.size w w':=by
 obtain⟨L,K⟩:∃u,mF (N p)=u:=⟨_,rfl⟩;obtain⟨m,t⟩:∃u,mS (N p)=u:=⟨_,rfl⟩;rw [K,t];have E:Hid (∀w1,RowKit.Below w.heap.size w w1 ->∀Bm,Bm<w1.heap.size ->w1.cell? ⟨Bm,0,none⟩=some (.map m) ->∃n,n<=1048576/\ SeqGives Fence.wide 4 Tryz.prog 128 #[.pointer (some ⟨Bm,0,none⟩)] dtV (QdA (M p)) n w1):=hid (fun w1 h Bm hBm k=>by
  cases e:N p with
  | some x=>
   obtain⟨D,V⟩:=(hT.below h).marks p x e;have:m=some x.2:=by rw [<- t,e];rfl
   rw [this] at k;exact⟨Maps.size D,Nat.le_trans V.own.size_le hc,QcZ Bm x.2 c _ D w1 hBm k V⟩
  | none=>
   have:m=none:=by rw [<- t,e];rfl
   rw [this] at k;refine⟨0,by omega,fun l J W q hJ hY h0=> ?_⟩;have R:M p=fun _=>none:=funext fun y=>by rw [hT.none' _ e]
   rw [R];exact Qfi 4 l Bm J W hJ ((q.cell (p:=⟨Bm,0,none⟩) hBm).trans k) h0)
 obtain⟨W,q⟩:∃W,w.alloc (.cells #[.map L,.map m] 53)=W:=⟨_,rfl⟩;have U:RowKit.Below w.heap.size w W:=by rw [<- q];exact zO _ _
 have Q:Bx2 W w.heap.size (.map L) (.map m):=by rw [<- q];exact Bx2.made _ _ _ _
 have k0:=Q.c1;have A:=hid U;clear hT U Q K t;go_enter Tryz.func73,Tryz.ntmps73;go_wp2_with fail;try rw [q]
 clear q;refine(QgC m W).mono ?_;rintro e w1 ⟨rfl,o⟩;have h:RowKit.Below W.heap.size W w1:=by rw [o];exact zO _ _
 have b:w1.cell? ⟨W.heap.size,0,none⟩=some (.map m):=by rw [o];simp
 have X:W.heap.size<w1.heap.size:=by rw [o];simp
 have z:=hid (A.trans (h.mono A.size));obtain⟨n,T,I⟩:=E w1 z.out W.heap.size X b;have O:=hid (Qc5 _ _ (enters_of Tryz.func128 (by kernel_rfl) rfl) n (M p) w1 T I);clear I o h b X k0 E;go_wp2_with fail;refine O.mono ?_;rintro e w2 ⟨v,j,rfl,H,k,Z,G,Y⟩;have i:=hid (And.intro H (And.intro k Z));have C:=hid (z.trans (Y.mono z.size));have F:Hid (w2.ownsRow w.heap.size 75 2 v j.length (kRow j)):=hid (by
  obtain⟨q1,s⟩:=G;refine⟨q1,?_⟩;rcases s with s|⟨g,cap,P,e,S,r⟩
  ·exact .inl s
  ·exact .inr ⟨g,cap,P,e,Nat.le_trans z.size S,r⟩)
 clear H k Z G Y O;go_wp2_with fail;go_ret;exact⟨v,j,rfl,i.1,i.2.1,i.2.2,F.out,C.out⟩
end Go.Proofs.YtjdcfkmhmnblbaaGreatDoor.Ds
namespace Go.Proofs.YtjdcfkmhmnblbaaGreatDoor
open Go.ChangeShapes Go.WideShapes Go.ChangeAt Go.RowKit
theorem QdB (B:Nat)(bv:Value)(zs0:List Int)(s:ByteArray)(w:World)(hs:s.size<=1048576)(hB:B<=w.heap.size)(hl:zs0.length<=1000000000)(ho:Own w B bv zs0):
  Calls Tryz.prog 44 #[bv,.string s] w fun e w'=>∃v,e=.returned v/\ Own w' B v (zs0++Qae s)/\ Gr w w' bv v/\ w.heap.size<w'.heap.size:=by
 have p:=Qah 9 s.size;go_enter Tryz.func44,Tryz.ntmps44;go_wp2_with fail;refine(QaU B s.size bv zs0 w (by omega) hB (by omega) ho).mono ?_;rintro e w1 ⟨o,rfl,q,k,i⟩;obtain⟨u,y,m,r,j⟩:=Qoj B o _ s w1 q (by omega) (by rw [List.length_append];omega) hs;have R:Own y B u (zs0++Qae s):=by unfold Qae;rw [<- List.append_assoc];exact r
 have h:=hid R;have z:=hid (k.trans j);have b:=j.g.size;have t:Hid (w.heap.size<y.heap.size):=hid (by omega);clear q r k j R i b ho;go_wp2_with (at_builtin;refine Qaa rfl _ _ _ _ rfl m (by rfl) (by rfl) rfl ?_;clear m);go_ret;exact⟨u,rfl,h.out,z.out,t.out⟩
theorem Qnt {w:World}{B g m cap:Nat}{ts:List Dt}(h:w.ownsRow B 75 2 (.slice (some ⟨g,0,none⟩) m cap) m (Ds.kRow ts))(hl:ts.length=m):∀i,i<m ->∃d,ts[i]? =some d/\ w.cell? ⟨g,i*2,none⟩=some (.int .i64 d.1)/\ w.cell? ⟨g,i*2+1,none⟩=some (.int .i64 d.2):=by
 rcases h.2 with ⟨y,_⟩|⟨o,t,k,z,A,u,b,p,s,r⟩
 ·cases y
 ·cases z;intro i E;have v:i<ts.length:=by omega
  have q:ts.toArray[i]! =ts[i]:=by rw [getElem!_pos _ _ (by simpa using v)];simp
  refine⟨ts[i],by simp [v],?_,?_⟩
  ·have j:(k.toList.take (m*2))[i*2]? =(Ds.kRow ts)[i*2]? :=by rw [r]
   rw [List.getElem?_take_of_lt (by omega),Ds.kRow_get ts (i*2) (by omega)] at j;rw [show i*2/2=i by omega,show i*2%2=0 by omega,q] at j;simp [World.cell?,u,<- Array.getElem?_toList,j,Ds.kCells]
  ·have j:(k.toList.take (m*2))[i*2+1]? =(Ds.kRow ts)[i*2+1]? :=by rw [r]
   rw [List.getElem?_take_of_lt (by omega),Ds.kRow_get ts (i*2+1) (by omega)] at j;rw [show (i*2+1)/2=i by omega,show (i*2+1)%2=1 by omega,q] at j;simp [World.cell?,u,<- Array.getElem?_toList,j,Ds.kCells]
theorem Qpr {w:World}{B:Nat}{v:Value}{ts:List Dt}(h:w.ownsRow B 75 2 v ts.length (Ds.kRow ts)):∃a cap,v=.slice a ts.length cap/\ ts.length<=cap/\ cap<=9223372036854775807/\ (0<ts.length ->∃g,a=some ⟨g,0,none⟩/\ B<=g/\ g<w.heap.size/\∀i,i<ts.length ->∃d,ts[i]? =some d/\ w.cell? ⟨g,i*2,none⟩=some (.int .i64 d.1)/\ w.cell? ⟨g,i*2+1,none⟩=some (.int .i64 d.2)):=by
 rcases h.2 with ⟨rfl,j⟩|⟨g,cap,u,rfl,r,q,k,m,y,z⟩
 ·exact⟨none,0,by rw [j],by omega,by omega,fun hh=>by omega⟩
 ·exact⟨_,cap,rfl,k,by unfold maxLen at m;omega,fun _=>⟨g,rfl,r,(Array.getElem?_eq_some_iff.1 q).1,Qnt h rfl⟩⟩
theorem QfF {R F T:Nat ->Int}{n:Nat}(l:List Lf)(p:List ByteArray)(y:Ky)(w0:World)(Bt c:Nat)(N:List Ky ->Option (Nat×Nat))(hT:Tre w0 Bt N (Mk l l.length) c)(hc:c<=1048576)(hlv:QbS R F T n l l.length)(hbd:LvB l)(hy:y.2=1 \/y.2=2)(bv:Value)(zs0:List Int)(w:World)(hb:Below w0.heap.size w0 w)(ho:Own w w0.heap.size bv zs0)(hl:zs0.length<=100000000):
  Calls Tryz.prog 45 #[.agg #[.map (mF (N (Qad p 3++[y]))),.map (mS (N (Qad p 3++[y])))],bv,.int .i64 y.2] w fun e w'=>∃v,e=.returned v/\ Own w' w0.heap.size v (zs0++mB (dsK l p y l.length) y.2)/\ Gr w w' bv v:=by
 have Hr:y.2≠3:=by omega
 obtain⟨ls,Q⟩:∃ls,dsK l p y l.length=ls:=⟨_,rfl⟩;obtain⟨Y,hY⟩:∃Y,y.2=Y:=⟨_,rfl⟩;rw [Q,hY];rw [hY] at hy;clear hY;obtain⟨W,E⟩:∃W,w.alloc (.cells #[.map (mF (N (Qad p 3++[y]))),.map (mS (N (Qad p 3++[y])))] 53)=W:=⟨_,rfl⟩;have K:Below w.heap.size w W:=by rw [<- E];exact zO _ _
 have V:Bx2 W w.heap.size (.map (mF (N (Qad p 3++[y])))) (.map (mS (N (Qad p 3++[y])))):=by rw [<- E];exact Bx2.made _ _ _ _
 have zW:W.heap.size=w.heap.size+1:=by rw [<- E];simp
 have Hm:Below w0.heap.size w0 W:=hb.trans (K.mono hb.size);have Hh:=hid (Ds.sortedDotsC Bt c N (Mk l l.length) (Qad p 3++[y]) W (hT.below Hm) hc);obtain⟨m0,Hp⟩:∃u,mF (N (Qad p 3++[y]))=u:=⟨_,rfl⟩;obtain⟨m1,C⟩:∃u,mS (N (Qad p 3++[y]))=u:=⟨_,rfl⟩;rw [Hp,C] at V Hh E;rw [Hp,C];have k0:=V.c0;have k1:=V.c1;have HX:=hid V;have Gi:=hid K;have D:=hid Hm;have HO:=hid (Own.kept ho K (fun k O=>(World.ownsRow.lt ho k O).2));have HT:=hid hT;have Gp:=hid C;have J:Hid (∀g,bv.ownBlock=some g ->w0.heap.size<=g/\ g<w.heap.size):=hid (fun g hg=>World.ownsRow.lt ho g hg);clear V K Hm ho hT Hp C;go_enter Tryz.func45,Tryz.ntmps45;go_wp2_with fail;try rw [E]
 clear E;refine Hh.mono ?_;rintro e w1 ⟨vd,ts,rfl,Hd,He,Gv,Gc,A⟩;have B:=QfK hlv Hr Hd He;have S:Hid (∀x∈ls,(0<=x.r/\ x.r<8)/\ (0<=x.q/\ x.q<=1000000000)/\ x.v.size<=200):=hid (fun x hx=>by
  rw [<- Q] at hx;obtain⟨j,hj,_,rfl⟩:=Qbc.1 hx;exact⟨hbd.rep j hj,hbd.seq j hj,hbd.val j hj⟩)
 have Gm:Hid (∀x∈ls,∀w',Below w0.heap.size w0 w' ->(Instr.lookup 51 (.map m1) (.agg #[.int .i64 x.r,.int .i64 x.q]) false).run Tryz.prog w'=.ok (.agg #[.string x.v]) w'):=hid (fun x hx w' hb'=>by
  have hv:=QfT Hr hbd.dis (by rw [Q];exact hx);have T':=HT.below hb';have hl:=S x hx;cases e:N (Qad p 3++[y]) with
  | none=>rw [T'.none' _ e] at hv;cases hv
  | some x1=>
   have hu:m1=some x1.2:=by rw [<- Gp.out,e];rfl
   obtain⟨kl,Gt⟩:=QdF (r:=x.r) (q:=x.q) (wfI (by omega) (by omega)) (wfI (by omega) (by omega));have:=(T'.marks _ x1 e).look QaF Tryz.underlying51 (QhV w') (x:=(x.r,x.q)) Gt;rw [hv] at this;rw [hu];exact this)
 have Gu:ls.length<=1000:=by rw [<- Q];have:=Qgw l p y l.length;have:=hbd.len;omega
 rw [Q] at B;have Gd:ts.length=ls.length:=by rw [B];simp
 obtain⟨da,dc,rfl,Hn,Gs,H8⟩:=Qpr Gc;have HD:Hid (0<ls.length ->∃g,da=some ⟨g,0,none⟩/\ W.heap.size<=g/\ g<w1.heap.size/\∀i,i<ls.length ->∃x∈ls,ls[i]? =some x/\ w1.cell? ⟨g,i*2,none⟩=some (.int .i64 x.r)/\ w1.cell? ⟨g,i*2+1,none⟩=some (.int .i64 x.q)):=hid (fun h0=>by
  obtain⟨g,e1,e2,e3,e4⟩:=H8 (by omega);refine⟨g,e1,e2,e3,fun i hi=> ?_⟩;obtain⟨d,f1,f2,f3⟩:=e4 i (by omega);rw [B] at f1;simp only [List.getElem?_map,Option.map_eq_some_iff] at f1;obtain⟨x,f4,f5⟩:=f1;subst f5;exact⟨x,List.mem_of_getElem? f4,f4,f2,f3⟩)
 rw [Gd] at Hn ⊢;have X1:=HX.below A HX.lt;have H0:=hid X1;have Gn:=hid (Own.kept HO.out A (fun k O=>by have:=(J k O).2;omega));have Hs:=hid (D.trans (A.mono D.size));have Hf:=hid (Qac Gi.out A);have x0:IntKind.u64.wrap ((ls.length:Nat):Int)=(ls.length:Int):=Qf5 _ (by omega) (by omega);have Gy:=A.size;have U:Hid (w0.heap.size<=w1.heap.size/\ w.heap.size<w1.heap.size/\ w0.heap.size<=w.heap.size):=hid ⟨Hs.size,by omega,hb.size⟩;clear k0 k1 Gc Hd He Gv H8 B Gd A Hh X1 HX HO D Gy Q Hr;go_wp2_with fail;refine(QaU w0.heap.size ls.length bv zs0 w1 (by omega) U.1 (by omega) Gn.out).mono ?_;rintro e w2 ⟨v2,rfl,o2,g2,z2⟩;have Hw:=hid o2;have Ht:=hid g2;have H1:=hid z2;clear o2 g2 z2 x0;go_wp2_with fail;go_loopw [1,19] (fun b' i wr=>∃(k:Nat),k<=ls.length/\ i=.int .i64 k/\ Hid (Own wr w0.heap.size b' (zs0++(uvF 9 ls.length++(ls.take k).flatMap (lfB Y))))/\ Hid (Gr w1 wr bv b')/\ Hid (w1.heap.size<=wr.heap.size)) (fun _ i _=>ls.length - (intOf i).toNat);case atStart=>exact⟨0,Nat.zero_le _,rfl,hid (by simpa using Hw.out),Ht,hid (Nat.le_of_lt H1.out)⟩
 case round=>
  clear Hw Ht H1;obtain⟨k,O,rfl,I,s,H3⟩:=hrel;by_cases Ho:k<ls.length
  ·obtain⟨g,rfl,Gz,G0,Ga⟩:=HD (by omega);obtain⟨x,Hq,Ge,H6,H7⟩:=Ga k Ho;have Hc:some g≠bv.ownBlock:=fun e=>by have:=(J g e.symm).2;omega
   have Ha:some w.heap.size≠bv.ownBlock:=fun e=>by have:=(J _ e.symm).2;omega
   have t:=s.g.cell H6 Hc;have c2:=s.g.cell H7 Hc;have n1:=s.g.cell H0.c1 Ha;have Gw:=S x Hq;have Hi:Hid ((ls.take (k+1)).flatMap (lfB Y)=(ls.take k).flatMap (lfB Y)++lfB Y x):=hid (by rw [List.take_add_one,Ge];simp);have Hk:Hid ((zs0++(uvF 9 ls.length++(ls.take k).flatMap (lfB Y))).length<=100000000+10+230000):=hid (by
    have h1:=(Qah 9 ls.length).1;have h2:=Qco (lfB Y) (fun _=>1) 230 (ls.take k) (fun z hz=>by
     have a1:=(Qah 9 z.r.toNat).1;have a2:=(Qah 9 z.q.toNat).1;have a3:=QaJ z.v;have a4:=(S z (List.mem_of_mem_take hz)).2.2;unfold lfB;simp only [List.length_append];split
     ·omega
     ·simp;omega)
    have h3:∀ls:List Lf,(ls.map fun _=>1).sum=ls.length:=fun ls=>by
     induction ls with
     | nil=>rfl
     | cons a r ih=>simp only [List.map_cons,List.sum_cons,ih,List.length_cons];omega
    rw [h3,List.length_take] at h2;simp only [List.length_append];omega)
   have P:Hid (∀w',Below w0.heap.size w0 w' ->(Instr.lookup 51 (.map m1) (.agg #[.int .i64 x.r,.int .i64 x.q]) false).run Tryz.prog w'=.ok (.agg #[.string x.v]) w'):=hid (fun w' h=>Gm.out x Hq w' h);obtain⟨xp,xf,xr,xq,Z⟩:=x;dsimp only at t c2 Gw P Hi;obtain⟨r,rfl⟩:∃r:Nat,xr=(r:Int):=⟨xr.toNat,by omega⟩;obtain⟨q,rfl⟩:∃q:Nat,xq=(q:Int):=⟨xq.toNat,by omega⟩;have Hz:Hid (lfB Y ⟨xp,xf,(r:Int),(q:Int),Z⟩=uvF 9 r++(uvF 9 q++if Y=1 then Qae Z else [])):=hid (by simp [lfB]);have x3:IntKind.u64.wrap (r:Int)=(r:Int):=Qf5 _ (by omega) (by omega);have x4:IntKind.u64.wrap (q:Int)=(q:Int):=Qf5 _ (by omega) (by omega);obtain⟨m,M⟩:∃m,wr.alloc (.cells #[.int .i64 (r:Int),.int .i64 (q:Int)] 75)=m:=⟨_,rfl⟩;have G:Bx2 m wr.heap.size (.int .i64 (r:Int)) (.int .i64 (q:Int)):=by rw [<- M];exact Bx2.made _ _ _ _
   have H4:Below wr.heap.size wr m:=by rw [<- M];exact zO _ _
   have Gl:Hid (Gr w1 m bv u1):=by rw [<- M];exact hid (s.alloc _)
   have Go:Hid (Own m w0.heap.size u1 (zs0++(uvF 9 ls.length++(ls.take k).flatMap (lfB Y)))):=by rw [<- M];exact hid (World.ownsRow.alloc I.out _)
   have Hb:Hid (some wr.heap.size≠u1.ownBlock):=hid (fun e=>by have:=(World.ownsRow.lt I.out _ e.symm).2;omega);have q0:=G.c0;have q1:=G.c1;have H:=hid G;have Gj:=hid Ha;have Hl:Hid (w1.heap.size<=m.heap.size):=hid (by have:=H4.size;have:=H3.out;omega);clear G H4 H6 H7 Ga Hq Ge Ha Hc I s H3;go_wp2_with fail;try rw [M]
   clear M;refine(QaU w0.heap.size r u1 _ m (by omega) (by have:=U.1;have:=Hl.out;omega) (by have:=Hk.out;omega) Go.out).mono ?_;rintro e w3 ⟨v3,rfl,o3,g3,z3⟩;have Gx:=g3.g.cell H.c1 Hb.out;have Hx:=hid o3;have Hu:=hid g3;have H2:=hid z3;have l3:=(Qah 9 r).1;clear o3 g3 z3 q0 q1 t c2 n1 x3;go_wp2_with fail;refine(QaU w0.heap.size q v3 _ w3 (by omega) (by have:=U.1;have:=Hl.out;have:=H2.out;omega) (by have:=Hk.out;rw [List.length_append];omega) Hx.out).mono ?_;rintro e o ⟨v5,rfl,o5,g5,z5⟩;have X:=Hu.trans g5;have Gg:=X.g.cell H.c0 Hb.out;have Gh:=X.g.cell H.c1 Hb.out;have L:=Gl.trans X;have Gf:=L.g.cell H0.c1 Gj.out;have H5:Below w0.heap.size w0 o:=Hs.trans (L.below U.1 (fun k O=>(J k O).1));have Gb:=P o H5;have H9:(Instr.field 107 (.agg #[.string Z]) 0).run Tryz.prog o=.ok (.string Z) o:=by kernel_rfl
   have Hy:=hid o5;have Hv:=hid L;have Hj:Hid (w1.heap.size<=o.heap.size):=hid (by have:=Hl.out;have:=H2.out;omega);have l5:=(Qah 9 q).1;clear o5 g5 z5 Gx X L x4 H5 P Hu Hx H;rcases hy with rfl|rfl
   ·go_wp2_with fail;refine(QdB w0.heap.size v5 _ Z o (by omega) (by have:=U.1;have:=Hj.out;omega) (by have:=Hk.out;simp only [List.length_append] at*;omega) Hy.out).mono ?_;rintro e w6 ⟨v6,rfl,o6,g6,z6⟩;have Hg:Hid (Own w6 w0.heap.size v6 (zs0++(uvF 9 ls.length++(ls.take (k+1)).flatMap (lfB 1)))):=hid (by rw [Hi.out,Hz.out];simpa using o6);have Gk:=hid (Hv.trans g6);have Gq:Hid (w1.heap.size<=w6.heap.size):=hid (by have:=Hj.out;omega);clear o6 g6 z6 Gb H9 Gg Gh Gf;go_wp2_with fail;go_roundw;case rel=>exact⟨k+1,Ho,by go_num,Hg,Gk,Gq⟩
    case measure=>simp [intOf];omega
   ·have Hg:Hid (Own o w0.heap.size v5 (zs0++(uvF 9 ls.length++(ls.take (k+1)).flatMap (lfB 2)))):=hid (by rw [Hi.out,Hz.out];simpa using Hy.out);clear Gb H9 Gg Gh Gf;go_wp2_with fail;go_roundw;case rel=>exact⟨k+1,Ho,by go_num,Hg,Hv,Hj⟩
    case measure=>simp [intOf];omega
  ·obtain rfl:k=ls.length:=by omega
   have HF:Hid (zs0++(uvF 9 ls.length++(ls.take ls.length).flatMap (lfB Y))=zs0++mB ls Y):=hid (by rw [List.take_length];rfl);go_wp2_with fail;go_ret;refine⟨_,rfl,by rw [<- HF.out];exact I.out,?_⟩;exact(Gr.of_below (b:=bv) Hf.out).trans s.out
theorem QnI {w:World}{B g m cap:Nat}{ts:List Ky}(h:w.ownsRow B 113 2 (.slice (some ⟨g,0,none⟩) m cap) m (kRow ts))(hl:ts.length=m):∀i,i<m ->∃d,ts[i]? =some d/\ w.cell? ⟨g,i*2,none⟩=some (.string d.1)/\ w.cell? ⟨g,i*2+1,none⟩=some (.int .i64 d.2):=by
 rcases h.2 with ⟨y,_⟩|⟨o,t,k,z,A,u,b,p,s,r⟩
 ·cases y
 ·cases z;intro i E;have v:i<ts.length:=by omega
  have q:ts.toArray[i]! =ts[i]:=by rw [getElem!_pos _ _ (by simpa using v)];simp
  refine⟨ts[i],by simp [v],?_,?_⟩
  ·have j:(k.toList.take (m*2))[i*2]? =(kRow ts)[i*2]? :=by rw [r]
   rw [List.getElem?_take_of_lt (by omega),kRow_get ts (i*2) (by omega)] at j;rw [show i*2/2=i by omega,show i*2%2=0 by omega,q] at j;simp [World.cell?,u,<- Array.getElem?_toList,j,kCells]
  ·have j:(k.toList.take (m*2))[i*2+1]? =(kRow ts)[i*2+1]? :=by rw [r]
   rw [List.getElem?_take_of_lt (by omega),kRow_get ts (i*2+1) (by omega)] at j;rw [show (i*2+1)/2=i by omega,show (i*2+1)%2=1 by omega,q] at j;simp [World.cell?,u,<- Array.getElem?_toList,j,kCells]
theorem Qpx {w:World}{B:Nat}{v:Value}{ts:List Ky}(h:w.ownsRow B 113 2 v ts.length (kRow ts)):∃a cap,v=.slice a ts.length cap/\ ts.length<=cap/\ cap<=9223372036854775807/\ (0<ts.length ->∃g,a=some ⟨g,0,none⟩/\ B<=g/\ g<w.heap.size/\∀i,i<ts.length ->∃d,ts[i]? =some d/\ w.cell? ⟨g,i*2,none⟩=some (.string d.1)/\ w.cell? ⟨g,i*2+1,none⟩=some (.int .i64 d.2)):=by
 rcases h.2 with ⟨rfl,j⟩|⟨g,cap,u,rfl,r,q,k,m,y,z⟩
 ·exact⟨none,0,by rw [j],by omega,by omega,fun hh=>by omega⟩
 ·exact⟨_,cap,rfl,k,by unfold maxLen at m;omega,fun _=>⟨g,rfl,r,(Array.getElem?_eq_some_iff.1 q).1,QnI h rfl⟩⟩
theorem QmG {p:List ByteArray}{x:Lf}{y:Ky}(hx:QbW x)(h:nx p x=some y):(y.2=1 \/y.2=2) \/(y.2=3/\ p.length+2<=8):=by
 rw [Qbi] at h;obtain⟨⟨_,q⟩,e⟩:=h;have j:=congrArg Prod.snd e;unfold Qau at j;dsimp only at j;by_cases m:p.length+1<x.p.length
 ·rw [if_pos m] at j;have:=hx.1.2.1;exact .inr ⟨j.symm,by omega⟩
 ·rw [if_neg m] at j;rcases QgB x.fl with k|k<;>rw [k] at j
  ·exact .inl (.inl j.symm)
  ·exact .inl (.inr j.symm)
theorem Qfb {α:Type}(f:α ->List Int)(ts:List α)(k:Nat):((ts.take k).flatMap f).length<=(ts.flatMap f).length:=by
 conv=>rhs;rw [<- List.take_append_drop k ts,List.flatMap_append,List.length_append]
 omega
theorem QfG {R F T:Nat ->Int}{n:Nat}(l:List Lf)(w0:World)(Bt c:Nat)(N:List Ky ->Option (Nat×Nat))(hT:Tre w0 Bt N (Mk l l.length) c)(hN:NkI l l.length N)(hc:c<=1048576)(hlv:QbS R F T n l l.length)(hbd:LvB l):∀(f:Nat) (p:List ByteArray),p.length+f=8 ->1<=f ->∀(bv:Value) (zs0:List Int) (w:World),Below w0.heap.size w0 w ->Own w w0.heap.size bv zs0 ->zs0.length+(tB l f p).length<=90000000 ->
  Calls Tryz.prog 21 #[.agg #[.map (mF (N (Qad p 3))),.map (mS (N (Qad p 3)))],bv] w fun e w'=>∃v,e=.returned v/\ Own w' w0.heap.size v (zs0++tB l f p)/\ Gr w w' bv v
 | 0,_,_,q,_,_,_,_,_,_=>by omega
 | f+1,p,hpf,_,bv,zs0,w,hb,ho,hl=>by
  obtain⟨k1,k2⟩:=QdT p hlv l.length zL;obtain⟨TB,Gi⟩:∃TB,tB l (f+1) p=TB:=⟨_,rfl⟩;rw [Gi] at hl ⊢;have Ka:Hid (∀s,p.length+2<=8 ->∀(bv:Value) (zs0:List Int) (w:World),Below w0.heap.size w0 w ->Own w w0.heap.size bv zs0 ->zs0.length+(tB l f (p++[s])).length<=90000000 ->Calls Tryz.prog 21 #[.agg #[.map (mF (N (Qad p 3++[(s,3)]))),.map (mS (N (Qad p 3++[(s,3)])))],bv] w fun e w'=>∃v,e=.returned v/\ Own w' w0.heap.size v (zs0++tB l f (p++[s]))/\ Gr w w' bv v):=hid (fun s G6 bv zs0 w q A h3=>by
   rw [<- Qf2];exact QfG l w0 Bt c N hT hN hc hlv hbd f (p++[s]) (by simp;omega) (by omega) bv zs0 w q A h3)
  obtain⟨W,hW⟩:∃W,w.alloc (.cells #[.map (mF (N (Qad p 3))),.map (mS (N (Qad p 3)))] 53)=W:=⟨_,rfl⟩;have b0:Below w.heap.size w W:=by rw [<- hW];exact zO _ _
  have X0:Bx2 W w.heap.size (.map (mF (N (Qad p 3)))) (.map (mS (N (Qad p 3)))):=by rw [<- hW];exact Bx2.made _ _ _ _
  have zW:W.heap.size=w.heap.size+1:=by rw [<- hW];simp
  have Gj:Below w0.heap.size w0 W:=hb.trans (b0.mono hb.size);have Gh:=hid (Qc6 Bt c N (Mk l l.length) (Qad p 3) W (hT.below Gj) hc);obtain⟨Z,Gc⟩:∃u,mF (N (Qad p 3))=u:=⟨_,rfl⟩;obtain⟨m1,Gk⟩:∃u,mS (N (Qad p 3))=u:=⟨_,rfl⟩;rw [Gc,Gk] at X0 Gh hW;rw [Gc,Gk];have q0:=X0.c0;have q1:=X0.c1;have HX:=hid X0;have G9:=hid b0;have Ge:=hid Gj;have HO:=hid (Own.kept ho b0 (fun k E=>(World.ownsRow.lt ho k E).2));have HT:=hid hT;have Kc:=hid Gc;have Hc:Hid (∀g,bv.ownBlock=some g ->w0.heap.size<=g/\ g<w.heap.size):=hid (fun g hg=>World.ownsRow.lt ho g hg);have Gu:=hid Gi;have Gp:=hid k2;clear X0 b0 Gj ho Gc Gk Gi k1 k2;go_enter Tryz.func21,Tryz.ntmps21;go_wp2_with fail;try rw [hW]
  clear hW;refine Gh.mono ?_;rintro e w1 ⟨vd,m,rfl,H2,H3,Ki,G5,b1⟩;have Ga:=QiX (p:=p) hlv hN H2 H3;obtain⟨da,dc,rfl,Ke,Kf,G2⟩:=Qpx G5;have Kh:m.length<=1000:=by rw [Ga];have:=Qe8 l p l.length;have:=hbd.len;omega
  have HD:Hid (0<m.length ->∃g,da=some ⟨g,0,none⟩/\ W.heap.size<=g/\ g<w1.heap.size/\∀i,i<m.length ->∃y∈m,m[i]? =some y/\ w1.cell? ⟨g,i*2,none⟩=some (.string y.1)/\ w1.cell? ⟨g,i*2+1,none⟩=some (.int .i64 y.2)):=hid (fun h0=>by
   obtain⟨g,e1,M,e3,e4⟩:=G2 h0;refine⟨g,e1,M,e3,fun i hi=> ?_⟩;obtain⟨d,f1,f2,f3⟩:=e4 i hi;exact⟨d,List.mem_of_getElem? f1,f1,f2,f3⟩)
  have Gv:Hid (TB=uvF 9 m.length++m.flatMap (kB l f p)):=hid (by rw [<- Gu.out,Qf1,<- Ga]);have Gq:Hid (∀y∈m,y.1.size<=40/\ ((y.2=1 \/y.2=2) \/(y.2=3/\ p.length+2<=8))):=hid (fun y hy=>by
   rw [Ga] at hy;obtain⟨j,hj,e⟩:=(Gp y).1 hy;exact⟨Qeb (hlv j hj).1 e,QmG (hlv j hj).1 e⟩)
  have Kb:Hid (∀y∈m,∀w',Below w0.heap.size w0 w' ->(Instr.lookup 50 (.map Z) (.agg #[.string y.1,.int .i64 y.2]) false).run Tryz.prog w'=.ok (.agg #[.map (mF (N (Qad p 3++[y]))),.map (mS (N (Qad p 3++[y])))]) w'):=hid (fun y hy w' hb'=>by
   have hl:=Gq y hy;obtain⟨kl,Kg⟩:=Qhu (s:=y.1) (k:=y.2) (by unfold maxLen;omega) (wfI (by omega) (by omega));have:=(HT.below hb').look (Qad p 3) y Kg;rw [Kc.out] at this;exact this)
  have X1:=HX.below b1 HX.lt;have H9:=hid X1;have Kd:=hid (Own.kept HO.out b1 (fun k E=>by have:=(Hc k E).2;omega));have H5:=hid (Ge.trans (b1.mono Ge.size));have Gd:=hid (Qac G9.out b1);have x0:IntKind.u64.wrap ((m.length:Nat):Int)=(m.length:Int):=Qf5 _ (by omega) (by omega);have Kj:=b1.size;have X:Hid (w0.heap.size<=w1.heap.size/\ w.heap.size<w1.heap.size/\ w0.heap.size<=w.heap.size):=hid ⟨H5.size,by omega,hb.size⟩;clear q0 q1 G5 H2 H3 Ki G2 Ga b1 Gh X1 HX HO Ge Kj Gp Gu;go_wp2_with fail;refine(QaU w0.heap.size m.length bv zs0 w1 (by omega) X.1 (by omega) Kd.out).mono ?_;rintro e w2 ⟨v2,rfl,o2,g2,z2⟩;have Gs:=hid o2;have Go:=hid g2;have Gw:=hid z2;clear o2 g2 z2 x0;go_wp2_with fail;go_loopw [1,17] (fun b' i wr=>∃(k:Nat),k<=m.length/\ i=.int .i64 k/\ Hid (Own wr w0.heap.size b' (zs0++(uvF 9 m.length++(m.take k).flatMap (kB l f p))))/\ Hid (Gr w1 wr bv b')/\ Hid (w1.heap.size<=wr.heap.size)) (fun _ i _=>m.length - (intOf i).toNat);case atStart=>exact⟨0,Nat.zero_le _,rfl,hid (by simpa using Gs.out),Go,hid (Nat.le_of_lt Gw.out)⟩
  case round=>
   clear Gs Go Gw;obtain⟨k,E,rfl,H7,Ho,Gx⟩:=hrel;by_cases Gb:k<m.length
   ·obtain⟨g,rfl,Kk,Kl,G3⟩:=HD (by omega);obtain⟨y,Gl,G8,G0,G1⟩:=G3 k Gb;have Hl:some g≠bv.ownBlock:=fun e=>by have:=(Hc g e.symm).2;omega
    have Hk:some w.heap.size≠bv.ownBlock:=fun e=>by have:=(Hc _ e.symm).2;omega
    have c1:=Ho.g.cell G0 Hl;have c2:=Ho.g.cell G1 Hl;have n0:=Ho.g.cell H9.c0 Hk;have G7:=Gq y Gl;have H8:Hid ((m.take (k+1)).flatMap (kB l f p)=(m.take k).flatMap (kB l f p)++kB l f p y):=hid (by rw [List.take_add_one,G8];simp);have Q:Hid ((zs0++(uvF 9 m.length++(m.take k).flatMap (kB l f p))).length+(kB l f p y).length<=90000000):=hid (by
     have q:=Qfb (kB l f p) m (k+1);rw [H8.out,List.length_append] at q;have A:=hl;rw [Gv.out] at A;simp only [List.length_append] at A ⊢;omega)
    have P:Hid (∀w',Below w0.heap.size w0 w' ->(Instr.lookup 50 (.map Z) (.agg #[.string y.1,.int .i64 y.2]) false).run Tryz.prog w'=.ok (.agg #[.map (mF (N (Qad p 3++[y]))),.map (mS (N (Qad p 3++[y])))]) w'):=hid (fun w' h=>Kb.out y Gl w' h);have Hp:Hid ((y.2=1 \/y.2=2) ->∀(bv:Value) (zs0:List Int) (w:World),Below w0.heap.size w0 w ->Own w w0.heap.size bv zs0 ->zs0.length<=100000000 ->Calls Tryz.prog 45 #[.agg #[.map (mF (N (Qad p 3++[y]))),.map (mS (N (Qad p 3++[y])))],bv,.int .i64 y.2] w fun e w'=>∃v,e=.returned v/\ Own w' w0.heap.size v (zs0++mB (dsK l p y l.length) y.2)/\ Gr w w' bv v):=hid (fun hy bv zs0 w q A h3=>QfF l p y w0 Bt c N HT.out hc hlv hbd hy bv zs0 w q A h3);obtain⟨s,Y⟩:=y;dsimp only at c1 c2 G7 P H8 Hp Q;obtain⟨I,Ht⟩:∃I,wr.alloc (.cells #[.string s,.int .i64 Y] 113)=I:=⟨_,rfl⟩;have D1:Bx2 I wr.heap.size (.string s) (.int .i64 Y):=by rw [<- Ht];exact Bx2.made _ _ _ _
    have Gz:Below wr.heap.size wr I:=by rw [<- Ht];exact zO _ _
    have Gg:Hid (Gr w1 I bv u1):=by rw [<- Ht];exact hid (Ho.alloc _)
    have Gt:Hid (Own I w0.heap.size u1 (zs0++(uvF 9 m.length++(m.take k).flatMap (kB l f p)))):=by rw [<- Ht];exact hid (World.ownsRow.alloc H7.out _)
    have Ha:Hid (some wr.heap.size≠u1.ownBlock):=hid (fun e=>by have:=(World.ownsRow.lt H7.out _ e.symm).2;omega);have q0:=D1.c0;have q1:=D1.c1;have D:=hid D1;have Hu:=hid Hk;have Gy:Hid (w1.heap.size<=I.heap.size):=hid (by have:=Gz.size;have:=Gx.out;omega);obtain⟨zs,Gm⟩:∃zs,zs0++(uvF 9 m.length++(m.take k).flatMap (kB l f p))=zs:=⟨_,rfl⟩;have Hi:Hid (zs0++(uvF 9 m.length++(m.take (k+1)).flatMap (kB l f p))=zs++kB l f p (s,Y)):=hid (by rw [H8.out,<- Gm];simp);rw [Gm] at Gt Q;clear D1 Gz G0 G1 G3 Gl G8 Hk Hl H7 Ho Gx Gm H8;go_wp2_with fail;try rw [Ht]
    clear Ht;refine(QdB w0.heap.size u1 _ s I (by omega) (by have:=X.1;have:=Gy.out;omega) (by have:=Q.out;omega) Gt.out).mono ?_;rintro e C ⟨v3,rfl,o3,g3,z3⟩;have Hq:=hid o3;have Hn:=hid g3;have Hs:Hid (w1.heap.size<=C.heap.size):=hid (by have:=Gy.out;omega);have Gn:=g3.g.cell D.c1 Ha.out;clear o3 g3 z3 q0 q1 c1 c2 n0;rcases G7.2 with (rfl|rfl)|⟨rfl,G6⟩
    ·have H:Hid (kB l f p (s,1)=Qae s++([1]++mB (dsK l p (s,1) l.length) 1)):=hid (by unfold kB;rw [if_neg (show¬(1:Int)=3 by decide)]);obtain⟨z,r,Hb,o5,J⟩:=Qcl w0.heap.size v3 _ [1] ⟨C.heap.size,0,none⟩ 1 1 (C.alloc (.cells #[.int .u8 1] 5)) (World.ownsRow.alloc Hq.out _) rfl (fun i u hu=>cell_one_new _ _ _ i u hu) (by have:=X.1;have:=Hs.out;simp;omega) (by have q:=Q.out;rw [H.out] at q;simp only [List.length_append] at q ⊢;simp at q ⊢;omega);have o:Gr I r u1 z:=Hn.trans ((Gr.alloc (Gr.refl C v3) _).trans J);have He:=o.g.cell D.c0 Ha.out;have Hf:=o.g.cell D.c1 Ha.out;have t:=Gg.trans o;have Hd:=t.g.cell H9.c0 Hu.out;have B:Below w0.heap.size w0 r:=H5.trans (t.below X.1 (fun k E=>(Hc k E).1));have H4:w1.heap.size<=r.heap.size:=by have q:=Hs.out;have A:=J.g.size;simp at A;omega
     have Hr:=hid o5;have Hv:=hid t;have H6:=hid B;have Hx:Hid ((zs++Qae s++[1]).length+(mB (dsK l p (s,1) l.length) 1).length<=90000000):=hid (by have q:=Q.out;rw [H.out] at q;simp only [List.length_append] at q ⊢;omega);obtain⟨U,Hg⟩:∃U,mF (N (Qad p 3++[(s,1)]))=U:=⟨_,rfl⟩;obtain⟨V,Hh⟩:∃V,mS (N (Qad p 3++[(s,1)]))=V:=⟨_,rfl⟩;have Hj:=hid (Hp (.inl rfl));rw [Hg,Hh] at P Hj;have Hm:Hid (some w.heap.size≠z.ownBlock/\ some wr.heap.size≠z.ownBlock):=hid ⟨by
      rcases t.l with e|⟨j,e,hj⟩
      ·rw [e];exact Hu.out
      ·rw [e];intro M;injection M with M;have:=X.2.1;omega,by
      rcases o.l with e|⟨j,e,hj⟩
      ·rw [e];exact Ha.out
      ·rw [e];intro M;injection M with M;have:=D.lt;omega⟩
     have Hz:Hid (∀w',Below w0.heap.size w0 w' ->w'.cell? ⟨w.heap.size,0,none⟩=some (.map Z) ->w'.cell? ⟨wr.heap.size,0,none⟩=some (.string s) ->w'.cell? ⟨wr.heap.size,1,none⟩=some (.int .i64 1) ->(Below w0.heap.size w0 w'/\ w'.cell? ⟨w.heap.size,0,none⟩=some (.map Z)/\ w'.cell? ⟨wr.heap.size,0,none⟩=some (.string s)/\ w'.cell? ⟨wr.heap.size,1,none⟩=some (.int .i64 1)/\ (Instr.lookup 50 (.map Z) (.agg #[.string s,.int .i64 1]) false).run Tryz.prog w'=.ok (.agg #[.map U,.map V]) w')):=hid (fun w' q A h3 h4=>⟨q,A,h3,h4,P.out w' q⟩);clear o5 J o t B Hp P Hg Hh Q Hq Hn;go_wp2_with (at_builtin;refine Qaa rfl _ _ _ _ rfl Hb (by rfl) (by rfl) rfl ?_;clear Hb);refine zR (S:=fun w'=>Below w0.heap.size w0 w'/\ w'.cell? ⟨w.heap.size,0,none⟩=some (.map Z)/\ w'.cell? ⟨wr.heap.size,0,none⟩=some (.string s)/\ w'.cell? ⟨wr.heap.size,1,none⟩=some (.int .i64 1)/\ (Instr.lookup 50 (.map Z) (.agg #[.string s,.int .i64 1]) false).run Tryz.prog w'=.ok (.agg #[.map U,.map V]) w') (Hz _ H6.drew Hd He Hf) (fun qh=> ?_);refine tZ 0 40 ?_;refine tZ 1 41 ?_;refine tZ 2 42 ?_;refine tZ 3 43 ?_;refine tZ 4 44 ?_;refine tZ 5 45 ?_;refine tZ 6 46 ?_;refine cZ 7 ?_;intro K hK;go_simp;refine(Hj z _ _ qh.1 (World.ownsRow.drew Hr.out) (by have:=Hx.out;omega)).mono ?_;rintro e G ⟨v6,rfl,o6,L⟩;have O:Gr r G z v6:=(show Gr r r.drew z z from⟨⟨rfl,rfl,rfl,Nat.le_refl _,fun _ _ _=>rfl⟩,.inl rfl⟩).trans L;have H1:Below w0.heap.size w0 G:=qh.1.trans (L.below qh.1.size (fun k E=>(World.ownsRow.lt Hr.out k E).1));refine hK.out _ _ (Hz _ H1 (O.g.cell Hd Hm.1) (O.g.cell He Hm.2) (O.g.cell Hf Hm.2)) (fun qh=> ?_);clear hK K;try simp only [zP]
     refine tZ 8 1 ?_;refine zD ?_;have Hy:Hid (Own G w0.heap.size v6 (zs0++(uvF 9 m.length++(m.take (k+1)).flatMap (kB l f p)))):=hid (by rw [Hi.out,H.out];simpa using o6);have Hw:=hid (Hv.trans O);have H0:Hid (w1.heap.size<=G.heap.size):=hid (by have:=O.g.size;omega);clear o6 L O H1 qh He Hf Hd H4 Gn Hj;go_wp2_with fail;go_roundw;case rel=>exact⟨k+1,Gb,by go_num,Hy,Hw,H0⟩
     case measure=>simp [intOf];omega
    ·have H:Hid (kB l f p (s,2)=Qae s++([2]++mB (dsK l p (s,2) l.length) 2)):=hid (by unfold kB;rw [if_neg (show¬(2:Int)=3 by decide)]);obtain⟨z,r,Hb,o5,J⟩:=Qcl w0.heap.size v3 _ [2] ⟨C.heap.size,0,none⟩ 1 1 (C.alloc (.cells #[.int .u8 2] 5)) (World.ownsRow.alloc Hq.out _) rfl (fun i u hu=>cell_one_new _ _ _ i u hu) (by have:=X.1;have:=Hs.out;simp;omega) (by have q:=Q.out;rw [H.out] at q;simp only [List.length_append] at q ⊢;simp at q ⊢;omega);have o:Gr I r u1 z:=Hn.trans ((Gr.alloc (Gr.refl C v3) _).trans J);have He:=o.g.cell D.c0 Ha.out;have Hf:=o.g.cell D.c1 Ha.out;have t:=Gg.trans o;have Hd:=t.g.cell H9.c0 Hu.out;have B:Below w0.heap.size w0 r:=H5.trans (t.below X.1 (fun k E=>(Hc k E).1));have H4:w1.heap.size<=r.heap.size:=by have q:=Hs.out;have A:=J.g.size;simp at A;omega
     have Hr:=hid o5;have Hv:=hid t;have H6:=hid B;have Hx:Hid ((zs++Qae s++[2]).length+(mB (dsK l p (s,2) l.length) 2).length<=90000000):=hid (by have q:=Q.out;rw [H.out] at q;simp only [List.length_append] at q ⊢;omega);obtain⟨U,Hg⟩:∃U,mF (N (Qad p 3++[(s,2)]))=U:=⟨_,rfl⟩;obtain⟨V,Hh⟩:∃V,mS (N (Qad p 3++[(s,2)]))=V:=⟨_,rfl⟩;have Hj:=hid (Hp (.inr rfl));rw [Hg,Hh] at P Hj;have Hm:Hid (some w.heap.size≠z.ownBlock/\ some wr.heap.size≠z.ownBlock):=hid ⟨by
      rcases t.l with e|⟨j,e,hj⟩
      ·rw [e];exact Hu.out
      ·rw [e];intro M;injection M with M;have:=X.2.1;omega,by
      rcases o.l with e|⟨j,e,hj⟩
      ·rw [e];exact Ha.out
      ·rw [e];intro M;injection M with M;have:=D.lt;omega⟩
     have Hz:Hid (∀w',Below w0.heap.size w0 w' ->w'.cell? ⟨w.heap.size,0,none⟩=some (.map Z) ->w'.cell? ⟨wr.heap.size,0,none⟩=some (.string s) ->w'.cell? ⟨wr.heap.size,1,none⟩=some (.int .i64 2) ->(Below w0.heap.size w0 w'/\ w'.cell? ⟨w.heap.size,0,none⟩=some (.map Z)/\ w'.cell? ⟨wr.heap.size,0,none⟩=some (.string s)/\ w'.cell? ⟨wr.heap.size,1,none⟩=some (.int .i64 2)/\ (Instr.lookup 50 (.map Z) (.agg #[.string s,.int .i64 2]) false).run Tryz.prog w'=.ok (.agg #[.map U,.map V]) w')):=hid (fun w' q A h3 h4=>⟨q,A,h3,h4,P.out w' q⟩);clear o5 J o t B Hp P Hg Hh Q Hq Hn;go_wp2_with (at_builtin;refine Qaa rfl _ _ _ _ rfl Hb (by rfl) (by rfl) rfl ?_;clear Hb);refine zR (S:=fun w'=>Below w0.heap.size w0 w'/\ w'.cell? ⟨w.heap.size,0,none⟩=some (.map Z)/\ w'.cell? ⟨wr.heap.size,0,none⟩=some (.string s)/\ w'.cell? ⟨wr.heap.size,1,none⟩=some (.int .i64 2)/\ (Instr.lookup 50 (.map Z) (.agg #[.string s,.int .i64 2]) false).run Tryz.prog w'=.ok (.agg #[.map U,.map V]) w') (Hz _ H6.drew Hd He Hf) (fun qh=> ?_);refine tZ 0 40 ?_;refine tZ 1 41 ?_;refine tZ 2 42 ?_;refine tZ 3 43 ?_;refine tZ 4 44 ?_;refine tZ 5 45 ?_;refine tZ 6 46 ?_;refine cZ 7 ?_;intro K hK;go_simp;refine(Hj z _ _ qh.1 (World.ownsRow.drew Hr.out) (by have:=Hx.out;omega)).mono ?_;rintro e G ⟨v6,rfl,o6,L⟩;have O:Gr r G z v6:=(show Gr r r.drew z z from⟨⟨rfl,rfl,rfl,Nat.le_refl _,fun _ _ _=>rfl⟩,.inl rfl⟩).trans L;have H1:Below w0.heap.size w0 G:=qh.1.trans (L.below qh.1.size (fun k E=>(World.ownsRow.lt Hr.out k E).1));refine hK.out _ _ (Hz _ H1 (O.g.cell Hd Hm.1) (O.g.cell He Hm.2) (O.g.cell Hf Hm.2)) (fun qh=> ?_);clear hK K;try simp only [zP]
     refine tZ 8 1 ?_;refine zD ?_;have Hy:Hid (Own G w0.heap.size v6 (zs0++(uvF 9 m.length++(m.take (k+1)).flatMap (kB l f p)))):=hid (by rw [Hi.out,H.out];simpa using o6);have Hw:=hid (Hv.trans O);have H0:Hid (w1.heap.size<=G.heap.size):=hid (by have:=O.g.size;omega);clear o6 L O H1 qh He Hf Hd H4 Gn Hj;go_wp2_with fail;go_roundw;case rel=>exact⟨k+1,Gb,by go_num,Hy,Hw,H0⟩
     case measure=>simp [intOf];omega
    ·have H:Hid (kB l f p (s,3)=Qae s++([3]++tB l f (p++[s]))):=hid (by unfold kB;rw [if_pos rfl]);obtain⟨z,r,Hb,o5,J⟩:=Qcl w0.heap.size v3 _ [3] ⟨C.heap.size,0,none⟩ 1 1 (C.alloc (.cells #[.int .u8 3] 5)) (World.ownsRow.alloc Hq.out _) rfl (fun i u hu=>cell_one_new _ _ _ i u hu) (by have:=X.1;have:=Hs.out;simp;omega) (by have q:=Q.out;rw [H.out] at q;simp only [List.length_append] at q ⊢;simp at q ⊢;omega);have o:Gr I r u1 z:=Hn.trans ((Gr.alloc (Gr.refl C v3) _).trans J);have He:=o.g.cell D.c0 Ha.out;have Hf:=o.g.cell D.c1 Ha.out;have t:=Gg.trans o;have Hd:=t.g.cell H9.c0 Hu.out;have B:Below w0.heap.size w0 r:=H5.trans (t.below X.1 (fun k E=>(Hc k E).1));have H4:w1.heap.size<=r.heap.size:=by have q:=Hs.out;have A:=J.g.size;simp at A;omega
     have Hr:=hid o5;have Hv:=hid t;have H6:=hid B;have Hx:Hid ((zs++Qae s++[3]).length+(tB l f (p++[s])).length<=90000000):=hid (by have q:=Q.out;rw [H.out] at q;simp only [List.length_append] at q ⊢;omega);have G4:=P r B;obtain⟨U,Hg⟩:∃U,mF (N (Qad p 3++[(s,3)]))=U:=⟨_,rfl⟩;obtain⟨V,Hh⟩:∃V,mS (N (Qad p 3++[(s,3)]))=V:=⟨_,rfl⟩;have Gf:=hid (Ka s G6 z _ r B o5 Hx.out);rw [Hg,Hh] at G4 Gf;clear o5 J o t B Hp P Hg Hh Q Hq Hn;go_wp2_with (at_builtin;refine Qaa rfl _ _ _ _ rfl Hb (by rfl) (by rfl) rfl ?_;clear Hb);refine Gf.mono ?_;rintro e G ⟨v6,rfl,o6,L⟩;have Hy:Hid (Own G w0.heap.size v6 (zs0++(uvF 9 m.length++(m.take (k+1)).flatMap (kB l f p)))):=hid (by rw [Hi.out,H.out];simpa using o6);have Hw:=hid (Hv.trans L);have H0:Hid (w1.heap.size<=G.heap.size):=hid (by have:=L.g.size;omega);clear o6 L G4 He Hf Hd Gf H4 Gn;go_wp2_with fail;go_roundw;case rel=>exact⟨k+1,Gb,by go_num,Hy,Hw,H0⟩
     case measure=>simp [intOf];omega
   ·obtain rfl:k=m.length:=by omega
    have HF:Hid (zs0++(uvF 9 m.length++(m.take m.length).flatMap (kB l f p))=zs0++TB):=hid (by rw [List.take_length,Gv.out]);go_wp2_with fail;go_ret;refine⟨_,rfl,by rw [<- HF.out];exact H7.out,?_⟩;exact(Gr.of_below (b:=bv) Gd.out).trans Ho.out
theorem QfO (a:Option Addr)(c:Nat)(l:List Lf)(x:Option Addr)(n d:Nat)(R F T:Nat ->Int)(w:World)(hn:l.length<=1048576)(hp:LBd l)(hi:∀i,LfI (gL l i))(hm:n<=1048576)(h:Qew w a l)(h':Qb5 w x n R F T):
  Calls Tryz.prog 7 #[.agg #[.slice a l.length c,.slice x n d]] w fun e w'=>∃v zs k,e=.returned (.tuple #[v,.int .i64 k])/\ psZ R F T n l=(zs,k)/\ Own w' w.heap.size v zs/\ Below w.heap.size w w':=by
 obtain⟨W,y⟩:∃W,w.alloc (.cells #[.slice a l.length c,.slice x n d] 29)=W:=⟨_,rfl⟩;have E:Below w.heap.size w W:=by rw [<- y];exact zO _ _
 have Y:Bx2 W w.heap.size (.slice a l.length c) (.slice x n d):=by rw [<- y];exact Bx2.made _ _ _ _
 have k0:=Y.c0;have k1:=Y.c1;have HL:=hid (h.below E);have HR:=hid (h'.below E);have Hc:=hid E;clear h h' E Y;by_cases q:QaQ R F T n l
 ·have z:=hid (Qih a c l x n d R F T W hn hp hi hm HL.out HR.out q);have Hh:=hid (fun h=>Qdd q h);have Hg:=hid (fun h=>QcJ q h);have Hj:=hid (And.intro q.put_len q.tree_len);have He:Hid ((psB R F T n l).length<=1000000000):=hid (by have h1:=q.put_len;have h2:=q.tree_len;unfold psB;rw [List.length_append];omega);have Hf:Hid (Qee (Lk R F T n)++tB l 8 []=psB R F T n l):=hid rfl;obtain⟨Z,hZ⟩:∃Z,psB R F T n l=Z:=⟨_,rfl⟩;obtain⟨P,u⟩:∃P,psZ R F T n l=P:=⟨_,rfl⟩;rw [hZ,u] at Hh Hg;rw [hZ] at He Hf;rw [u];clear hZ u;have A:=hid q;clear q;go_enter Tryz.func7,Tryz.ntmps7;go_wp2_with fail;try rw [y]
  clear y;refine z.mono ?_;rintro e w1 ⟨⟨x0,o,D,G,N,B,rfl,Ha,_,_,_,hT,hN,hI⟩,t⟩;obtain⟨j,V⟩:∃j,w1.alloc (.cells #[.map (some x0.1),.map (some x0.2),.map (some o)] 57)=j:=⟨_,rfl⟩;have M:Below w1.heap.size w1 j:=by rw [<- V];exact zO _ _
  have g:Bx3 j w1.heap.size (.map (some x0.1)) (.map (some x0.2)) (.map (some o)):=by rw [<- V];exact Bx3.made _ _ _ _ _
  have O:=g.c0;have Q:=g.c1;have c2:=g.c2;have I:=hid g;have HZ:=hid (Qac Hc.out (Qac t M));have U:=Qao.1 A.1;have HA:Hid (∀m,Below j.heap.size j m ->Calls Tryz.prog 22 #[.map (some o),.slice none 0 0] m fun e w'=>∃v,e=.returned v/\ Own w' m.heap.size v (Qee (Lk R F T n))/\ Below m.heap.size m w'):=hid (fun m hb3=>Qi4 ((Ha.below M).below hb3) (hid (fun r=>Nat.le_trans (Qdl R F T n r) U.2)) (hid (fun r=>(Qdm n U.1 r).1)) (hid (Qiz n U.1)));have Hi:Hid (∀(bv:Value) (m:World),Below j.heap.size j m ->Own m j.heap.size bv (Qee (Lk R F T n)) ->Calls Tryz.prog 21 #[.agg #[.map (some x0.1),.map (some x0.2)],bv] m fun e w'=>∃v,e=.returned v/\ Own w' j.heap.size v Z/\ Gr m w' bv v):=hid (fun bv m hb3 ho3=>by
   have:=QfG l j B (9*l.length) N (hT.below M) hI (by have:=A.2.1;omega) A.2.2.1 A.lvB 8 [] rfl (by omega) bv _ m hb3 ho3 (by have:=Hj.out;omega);rw [show N (Qad [] 3)=some x0 from hN,Hf.out] at this;exact this)
  clear t M g hT hN hI Ha z k0 k1 U;go_wp2_with fail;try rw [V]
  clear V;have s:Hid (∀w',Below j.heap.size j w' ->(Below j.heap.size j w'/\ w'.cell? ⟨w1.heap.size,0,none⟩=some (.map (some x0.1))/\ w'.cell? ⟨w1.heap.size,1,none⟩=some (.map (some x0.2))/\ w'.cell? ⟨w1.heap.size,2,none⟩=some (.map (some o)))):=hid (fun w' hB=>by
   have X:=I.below hB I.lt;exact⟨hB,X.c0,X.c1,X.c2⟩)
  clear O Q c2 I;refine zR (S:=fun w'=>Below j.heap.size j w'/\ w'.cell? ⟨w1.heap.size,0,none⟩=some (.map (some x0.1))/\ w'.cell? ⟨w1.heap.size,1,none⟩=some (.map (some x0.2))/\ w'.cell? ⟨w1.heap.size,2,none⟩=some (.map (some o))) (s _ zI.drew) (fun qh=> ?_);refine tZ 0 14 ?_;refine tZ 1 15 ?_;refine tZ 2 16 ?_;refine tZ 3 17 ?_;refine cZ 4 ?_;intro K p;go_simp;refine(HA _ qh.1).mono ?_;rintro e m ⟨v3,rfl,o3,b3⟩;have b:=Qac qh.1 b3;have J:=hid (Own.weak o3 qh.1.size);refine p.out _ _ (s _ b) (fun qh=> ?_);clear p K;try simp only [zP]
  refine cZ 5 ?_;intro K p;go_simp;refine(Hi v3 m b J.out).mono ?_;rintro e w4 ⟨v4,rfl,o4,g4⟩;have Hb:Below j.heap.size j w4:=b.trans (g4.below b.size (fun k hk=>(World.ownsRow.lt J.out k hk).1));refine p.out _ _ (s _ Hb) (fun qh=> ?_);clear p K;try simp only [zP]
  refine tZ 6 6 ?_;refine zD ?_;have Hd:=hid (Qac HZ.out Hb);have Hk:=hid (Own.weak o4 HZ.size);obtain⟨av,cv,rfl,_⟩:=o4.any;have Hl:=He.out;clear g4 o4 J b Hb b3 o3 qh Hi HA s;by_cases hz:Z.length<=4000
  ·have L:=hid (Hh hz);have d1:decide ((4000:Int)<(Z.length:Int))=false:=by simp;omega
   have d2:decide (4000<Z.length)=false:=by simp;omega
   go_wp2_with fail;go_ret2;exact⟨_,Z,0,rfl,L.out,Hk.out,Hd.out⟩
  ·have L:=hid (Hg hz);have d1:decide ((4000:Int)<(Z.length:Int))=true:=by simp;omega
   have d2:decide (4000<Z.length)=true:=by simp;omega
   go_wp2_with fail;go_ret2;exact⟨_,[],2,rfl,L.out,World.ownsRow_nil _ _ _ _,Hd.out⟩
 ·have z:=hid (QgJ a c l x n d R F T W hn hp hi hm HL.out HR.out q);have C:=hid (QfZ q);obtain⟨P,u⟩:∃P,psZ R F T n l=P:=⟨_,rfl⟩;rw [u] at C;rw [u];clear u q;go_enter Tryz.func7,Tryz.ntmps7;go_wp2_with fail;try rw [y]
  clear y;refine z.mono ?_;rintro e w1 ⟨rfl,t⟩;have H:=hid (Qac Hc.out t);clear t z k0 k1;go_wp2_with fail;go_ret2;first|exact⟨_,[],1,rfl,C.out,World.ownsRow_nil _ _ _ _,H.out⟩|exact⟨_,[],1,rfl,C.out,World.ownsRow_nil _ _ _ _,H.alloc H.size _⟩
noncomputable def cN (f:Nat ->Int)(n p:Nat):Nat:=(Qlm f n p).choose
theorem QcU (f:Nat ->Int)(n p:Nat):Cnt f n p (cN f n p):=(Qlm f n p).choose_spec
noncomputable def rd (f:Nat ->Int)(n x:Nat)(most:Int):Option (Nat×Nat):=
 if (gX f n (cN f n x) (x:Int)).2.2=0/\ ((gX f n (cN f n x) (x:Int)).1:Int)<=most then some ((gX f n (cN f n x) (x:Int)).1,(gX f n (cN f n x) (x:Int)).2.1.toNat) else none
theorem Qhi {f:Nat ->Int}{x:Nat}{U:List Int}{m:Nat}(h:U=(List.range m).map (fun i=>f (x+i))):At f x U:=by
 intro i j;subst h;have k:i<m:=by simpa using j
 simp [List.getD,k]
theorem Qav {f:Nat ->Int}(hf:Byt f){n x:Nat}{most:Int}{V x':Nat}:
  rd f n x most=some (V,x')↔V<18446744073709551616/\ (V:Int)<=most/\ At f x (uvF 9 V)/\ x'=x+(uvF 9 V).length/\ x'<=n:=by
 constructor
 ·intro h;unfold rd at h;split at h
  ·rename_i hc;injection h with h;injection h with h1 h2;obtain⟨p,g,t,j,m,k⟩:=Qmk hf (by simpa using QcU f n x) hc.1;have z:p=x:=by omega
   subst z;rw [h1] at j k hc;have u:(uvF 9 V).length=cN f n p+1:=by rw [k];simp
   refine⟨j,hc.2,Qhi k,?_,?_⟩
   ·rw [<- h2,m,u];simp;omega
   ·rw [<- h2,m];simp;omega
  ·cases h
 ·rintro⟨j,v,q,rfl,y⟩;have r:=Qn1 j q y (QcU f n x);unfold rd;rw [r];simp [v];omega
def QbI:Int ->List (Int×Int) ->List Int
 | _,[]=>[]
 | least,p::l=>uvF 9 (p.1 - least).toNat++uvF 9 (p.2 - p.1).toNat++QbI (p.2+2) l
def okS:Int ->List (Int×Int) ->Prop
 | _,[]=>True
 | least,p::l=>least<=p.1/\ p.1<=p.2/\ p.2<=1000000000/\ okS (p.2+2) l
noncomputable def Qa0 (f:Nat ->Int)(n:Nat):Nat ->Int ->Nat ->Option (List (Int×Int)×Nat)
 | 0,_,x=>some ([],x)
 | k+1,least,x=>do
  let (skip,x1) <- rd f n x (1000000000 - least)
  let (more,x2) <- rd f n x1 (1000000000 - (least+skip))
  let (l,x3) <- Qa0 f n k (least+skip+more+2) x2
  some ((least+(skip:Int),least+(skip:Int)+(more:Int))::l,x3)
theorem At.app {f:Nat ->Int}{x:Nat}{U W:List Int}:At f x (U++W)↔At f x U/\ At f (x+U.length) W:=by
 constructor
 ·intro h;refine⟨fun i j=> ?_,fun i j=> ?_⟩
  ·have:=h i (by simp;omega);rw [this,QcE j]
  ·have:=h (U.length+i) (by simp;omega);rw [Nat.add_assoc,this];simp [List.getD,List.getElem?_append_right]
 ·rintro⟨m,q⟩ i j;by_cases k:i<U.length
  ·rw [m i k,QcE k]
  ·have:=q (i - U.length) (by simp at j;omega);rw [show x+U.length+(i - U.length)=x+i from by omega] at this;rw [this];simp [List.getD,List.getElem?_append_right (show U.length<=i by omega)]
theorem Qej {f:Nat ->Int}(hf:Byt f){n:Nat}:∀(k:Nat) (j:Int) (x:Nat) (l:List (Int×Int)) (x':Nat),0<=j ->
  (Qa0 f n k j x=some (l,x')/\ x<=n↔l.length=k/\ okS j l/\ At f x (QbI j l)/\ x'=x+(QbI j l).length/\ x'<=n):=by
 intro k;induction k with
 | zero=>
  intro j x l x' _;cases l with
  | nil=>simp [Qa0,QbI,okS,At];omega
  | cons p l=>simp [Qa0]
 | succ k ih=>
  intro j x l x' hl;cases l with
  | nil=>
   simp only [List.length_nil];constructor
   ·rintro⟨h,_⟩;exfalso;unfold Qa0 at h;cases u:rd f n x (1000000000 - j) with
    | none=>rw [u] at h;simp at h
    | some a=>
     rw [u] at h;simp only [Option.bind_eq_bind,Option.bind_some] at h;cases h2:rd f n a.2 (1000000000 - (j+a.1)) with
     | none=>rw [h2] at h;simp at h
     | some b=>
      rw [h2] at h;simp only [Option.bind_some] at h;cases v:Qa0 f n k (j+a.1+b.1+2) b.2 with
      | none=>rw [v] at h;simp at h
      | some c=>rw [v] at h;simp at h
   ·rintro⟨h,_⟩;omega
  | cons p l=>
   obtain⟨m,q⟩:=p;constructor
   ·rintro⟨h,Ha⟩;unfold Qa0 at h;cases u:rd f n x (1000000000 - j) with
    | none=>rw [u] at h;simp at h
    | some a=>
     obtain⟨r,W⟩:=a;rw [u] at h;simp only [Option.bind_eq_bind,Option.bind_some] at h;cases h2:rd f n W (1000000000 - (j+r)) with
     | none=>rw [h2] at h;simp at h
     | some b=>
      obtain⟨y,O⟩:=b;rw [h2] at h;simp only [Option.bind_some] at h;cases v:Qa0 f n k (j+r+y+2) O with
      | none=>rw [v] at h;simp at h
      | some c=>
       obtain⟨t,Q⟩:=c;rw [v] at h;simp only [Option.bind_some,Option.some.injEq,Prod.mk.injEq,List.cons.injEq] at h;obtain⟨⟨⟨g,z⟩,rfl⟩,rfl⟩:=h;obtain⟨s1,s2,B,o,s5⟩:=(Qav hf).1 u;obtain⟨t1,t2,C,M,D⟩:=(Qav hf).1 h2;obtain⟨F,P,R,S,T⟩:=(ih (j+r+y+2) O t Q (by omega)).1 ⟨v,D⟩;subst g z;have A:(j+(r:Int) - j).toNat=r:=by omega
       have E:(j+(r:Int)+(y:Int) - (j+(r:Int))).toNat=y:=by omega
       refine⟨by simp [F],⟨by show j<=j+(r:Int);omega,by show j+(r:Int)<=_;omega,by show j+(r:Int)+(y:Int)<=_;omega,P⟩,?_,?_,T⟩
       ·show At f x (uvF 9 _++uvF 9 _++QbI _ t);simp only [A,E];rw [At.app,At.app];refine⟨⟨B,by rw [<- o];exact C⟩,?_⟩;rw [List.length_append,<- Nat.add_assoc,<- o,<- M];exact R
       ·show Q=x+(uvF 9 _++uvF 9 _++QbI _ t).length;simp only [A,E,List.length_append];rw [S,M,o];omega
   ·rintro⟨u,⟨K,L,N,X⟩,v,H,J⟩;have Hb:j<=m:=K;have Hc:m<=q:=L;have Hd:q<=1000000000:=N;have s:At f x (uvF 9 (m - j).toNat++uvF 9 (q - m).toNat++QbI (q+2) l):=v;have I:x'=x+(uvF 9 (m - j).toNat++uvF 9 (q - m).toNat++QbI (q+2) l).length:=H;rw [At.app,At.app] at s;rw [List.length_append,List.length_append] at I;obtain⟨⟨U,V⟩,i⟩:=s;rw [List.length_append,<- Nat.add_assoc] at i;have Y:rd f n x (1000000000 - j)=some ((m - j).toNat,x+(uvF 9 (m - j).toNat).length):=(Qav hf).2 ⟨by omega,by omega,U,rfl,by omega⟩;have g:j+(((m - j).toNat:Nat):Int)=m:=by omega
    have Z:rd f n (x+(uvF 9 (m - j).toNat).length) (1000000000 - (j+(((m - j).toNat:Nat):Int)))=some ((q - m).toNat,x+(uvF 9 (m - j).toNat).length+(uvF 9 (q - m).toNat).length):=(Qav hf).2 ⟨by omega,by omega,V,rfl,by omega⟩;have z:j+(((m - j).toNat:Nat):Int)+(((q - m).toNat:Nat):Int)=q:=by omega
    have G:=((ih (q+2) (x+(uvF 9 (m - j).toNat).length+(uvF 9 (q - m).toNat).length) l x' (by omega)).2 ⟨by simpa using u,X,i,by omega,J⟩).1;refine⟨?_,by omega⟩;unfold Qa0;rw [Y];simp only [Option.bind_eq_bind,Option.bind_some];rw [Z];simp only [Option.bind_some,z];rw [G];simp only [Option.bind_some,g,z]
def QcW:List (Int×List (Int×Int)) ->List Int
 | []=>[]
 | p::g=>uvF 9 p.1.toNat++uvF 9 p.2.length++QbI 1 p.2++QcW g
def okR:Int ->Int ->List (Int×List (Int×Int)) ->Prop
 | _,_,[]=>True
 | before,left,p::g=>before<p.1/\ 0<=p.1/\ p.1<=7/\ p.2≠[]/\ (p.2.length:Int)<=left/\ okS 1 p.2/\ okR p.1 (left - p.2.length) g
noncomputable def QaB (f:Nat ->Int)(n:Nat):Nat ->Int ->Int ->Nat ->Option (List (Int×List (Int×Int))×Nat)
 | 0,_,_,x=>some ([],x)
 | k+1,before,left,x=>
  (rd f n x 7).bind fun a=>
   if (a.1:Int)<=before then none else
   (rd f n a.2 left).bind fun b=>
    if b.1=0 then none else
    (Qa0 f n b.1 1 b.2).bind fun c=>
     (QaB f n k (a.1:Int) (left - (b.1:Int)) c.2).bind fun d=>some (((a.1:Int),c.1)::d.1,d.2)
theorem QeE {f:Nat ->Int}(hf:Byt f){n:Nat}:∀(k:Nat) (before j:Int) (x:Nat) (g:List (Int×List (Int×Int))) (x':Nat),j<=1000 ->
  (QaB f n k before j x=some (g,x')/\ x<=n↔g.length=k/\ okR before j g/\ At f x (QcW g)/\ x'=x+(QcW g).length/\ x'<=n):=by
 intro k;induction k with
 | zero=>
  intro before j x g x' _;cases g with
  | nil=>simp [QaB,QcW,okR,At];omega
  | cons p g=>simp [QaB]
 | succ k ih=>
  intro before j x g x' Ha;constructor
  ·rintro⟨h,Hc⟩;unfold QaB at h;obtain⟨a,m,h⟩:=Option.bind_eq_some_iff.1 h;split at h
   ·cases h
   ·rename_i hab;obtain⟨b,u,h⟩:=Option.bind_eq_some_iff.1 h;split at h
    ·cases h
    ·rename_i hb0;obtain⟨c,v,h⟩:=Option.bind_eq_some_iff.1 h;obtain⟨d,y,h⟩:=Option.bind_eq_some_iff.1 h;obtain⟨rep,x1⟩:=a;obtain⟨o,x2⟩:=b;obtain⟨l,E⟩:=c;obtain⟨q,M⟩:=d;simp only [Option.some.injEq,Prod.mk.injEq] at h;obtain⟨rfl,rfl⟩:=h;dsimp only at m u v y hab hb0;obtain⟨s1,s2,T,i,s5⟩:=(Qav hf).1 m;obtain⟨t1,t2,W,s,t5⟩:=(Qav hf).1 u;obtain⟨z,u2,u3,A,u5⟩:=(Qej hf o 1 x2 l E (by omega)).1 ⟨v,t5⟩;obtain⟨v1,v2,v3,v4,v5⟩:=(ih rep (j - o) E q M (by omega)).1 ⟨y,u5⟩;have L:l≠[]:=by intro e;subst e;simp at z;omega
     refine⟨by simp [v1],⟨by show before<(rep:Int);omega,by show (0:Int)<=(rep:Int);omega,by show (rep:Int)<=7;omega,L,by show ((l.length:Nat):Int)<=j;omega,u2,?_⟩,?_,?_,v5⟩
     ·show okR (rep:Int) (j - ((l.length:Nat):Int)) q;rw [z];exact v2
     ·show At f x (uvF 9 ((rep:Int)).toNat++uvF 9 l.length++QbI 1 l++QcW q);rw [Int.toNat_natCast,z,At.app,At.app,At.app];simp only [List.length_append,<- Nat.add_assoc];rw [<- i,<- s,<- A];exact⟨⟨⟨T,W⟩,u3⟩,v3⟩
     ·show M=x+(uvF 9 ((rep:Int)).toNat++uvF 9 l.length++QbI 1 l++QcW q).length;rw [Int.toNat_natCast,z];simp only [List.length_append];rw [v4,A,s,i];omega
  ·rintro⟨m,u,v,y,K⟩;cases g with
   | nil=>simp at m
   | cons p g=>
    obtain⟨r,l⟩:=p;obtain⟨N,X,B,C,F,P,R⟩:=u;have Hd:before<r:=N;have He:0<=r:=X;have Hf:r<=7:=B;have D:l≠[]:=C;have Hg:((l.length:Nat):Int)<=j:=F;have S:okR r (j - ((l.length:Nat):Int)) g:=R;have t:At f x (uvF 9 r.toNat++uvF 9 l.length++QbI 1 l++QcW g):=v;have J:x'=x+(uvF 9 r.toNat++uvF 9 l.length++QbI 1 l++QcW g).length:=y;rw [At.app,At.app,At.app] at t;simp only [List.length_append,<- Nat.add_assoc] at t J;obtain⟨⟨⟨O,Q⟩,U⟩,V⟩:=t;have Hb:0<l.length:=List.length_pos_iff.2 D;have Y:rd f n x 7=some (r.toNat,x+(uvF 9 r.toNat).length):=(Qav hf).2 ⟨by omega,by omega,O,rfl,by omega⟩;have Z:rd f n (x+(uvF 9 r.toNat).length) j=some (l.length,x+(uvF 9 r.toNat).length+(uvF 9 l.length).length):=(Qav hf).2 ⟨by omega,by omega,Q,rfl,by omega⟩;have G:=((Qej (n:=n) hf l.length 1 (x+(uvF 9 r.toNat).length+(uvF 9 l.length).length) l (x+(uvF 9 r.toNat).length+(uvF 9 l.length).length+(QbI 1 l).length) (by omega)).2 ⟨rfl,P,U,rfl,by omega⟩).1;have I:((r.toNat:Nat):Int)=r:=by omega
    have H:=((ih r (j - ((l.length:Nat):Int)) (x+(uvF 9 r.toNat).length+(uvF 9 l.length).length+(QbI 1 l).length) g x' (by omega)).2 ⟨by simpa using m,S,V,by omega,K⟩).1;refine⟨?_,by omega⟩;unfold QaB;rw [Y,Option.bind_some,if_neg (by show¬((r.toNat:Nat):Int)<=before;omega),Z,Option.bind_some,if_neg (by show¬l.length=0;omega),G,Option.bind_some];dsimp only;rw [I,H,Option.bind_some]
noncomputable def QgO (f:Nat ->Int)(n x:Nat):Option (List (Int×List (Int×Int))×Nat):=
 (rd f n x 8).bind fun a=>QaB f n a.1 (-1) 1000 a.2
def QhZ (g:List (Int×List (Int×Int))):List Int:=uvF 9 g.length++QcW g
theorem Qjm:∀(g:List (Int×List (Int×Int))) (before j:Int),okR before j g -> -1<=before ->before<=7 ->(g.length:Int)<=7 - before:=by
 intro g;induction g with
 | nil=>intro before j _ k m;simp;omega
 | cons p g ih=>
  rintro before j ⟨r,u,v,y,z,h,q⟩ k m;have:=ih p.1 _ q (by omega) (by omega);simp only [List.length_cons];omega
theorem Qcg {f:Nat ->Int}(hf:Byt f){n x:Nat}(hx:x<=n){g:List (Int×List (Int×Int))}{x':Nat}:
  QgO f n x=some (g,x')↔okR (-1) 1000 g/\ At f x (QhZ g)/\ x'=x+(QhZ g).length/\ x'<=n:=by
 constructor
 ·intro h;obtain⟨⟨u,s⟩,k,j⟩:=Option.bind_eq_some_iff.1 h;dsimp only at j;obtain⟨E,M,y,z,t⟩:=(Qav hf).1 k;obtain⟨o,i,b,O,p⟩:=(QeE hf u (-1) 1000 s g x' (by omega)).1 ⟨j,t⟩;unfold QhZ;rw [o,At.app,List.length_append,<- z];exact⟨i,⟨y,b⟩,by omega,p⟩
 ·rintro⟨k,j,m,v⟩;unfold QhZ at j m;rw [At.app] at j;rw [List.length_append] at m;have A:=Qjm g (-1) 1000 k (by omega) (by omega);have q:rd f n x 8=some (g.length,x+(uvF 9 g.length).length):=(Qav hf).2 ⟨by omega,by omega,j.1,rfl,by omega⟩;have r:=((QeE (n:=n) hf g.length (-1) 1000 (x+(uvF 9 g.length).length) g x' (by omega)).2 ⟨rfl,k,j.2,by omega,v⟩).1;unfold QgO;rw [q,Option.bind_some];exact r
variable {EX : Nat -> Option Value}
noncomputable def rdI (f:Nat ->Int)(n:Nat)(x most:Int):Option (Nat×Nat):=if 0<=x then rd f n x.toNat most else none
theorem Qa4 (f:Nat ->Int)(n p:Nat)(most:Int):rdI f n (p:Int) most=rd f n p most:=by
 unfold rdI;rw [if_pos (by omega)];simp
theorem uvC (cb B:Nat)(a:Option Addr)(n c:Nat)(x:Int)(f:Nat ->Int)(aT aS aL aE:Addr)(w:World)(hn:n<=1048576)(hf:Byt f)(hcur:Cur EX w cb a n c x)(hs:Seg w a n f)(hab:∀y,a=some y ->y.block≠cb)(hE:QcQ w B aT aS aL aE)(hBc:B<=cb):
  Calls Tryz.prog 98 #[.pointer (some ⟨cb,0,none⟩)] w fun e w'=>w.grownBy w' (some cb)/\
   ((∃V x':Nat,V<18446744073709551616/\ (∀most:Int,rdI f n x most=if (V:Int)<=most then some (V,x') else none)/\ e=.returned (.tuple #[.int .u64 (V:Int),.nilIface])/\ Cur EX w' cb a n c (x':Int)) \/
    ((∀most:Int,rdI f n x most=none)/\∃(t:TypeId) (v:Value) (y:Int),e=.returned (.tuple #[.int .u64 0,.iface t v])/\ Cur EX w' cb a n c y)):=by
 by_cases A:x<0 \/(n:Int)<=x
 ·refine(Qpd cb B a n c x aT aS aL aE w hn hcur A hE).mono ?_;rintro e w1 ⟨E,rfl,s,g,q⟩;refine⟨Qag (Qbm w (some cb)) q,.inr ⟨fun most=> ?_,_,_,x,rfl,hcur.below q hcur.lt⟩⟩;unfold rdI;split
  ·rename_i j;unfold rd;rw [QdJ (by omega)];simp
  ·rfl
 ·obtain⟨p,rfl⟩:∃p:Nat,x=(p:Int):=⟨x.toNat,by omega⟩;have k:p<n:=by omega
  rcases hs with h|⟨b,off,rfl,o,i⟩
  ·omega
  have z:=QcU f n p;have u:=QcD (x:=(p:Int)) (by simpa using z) hf hn (by omega) (by omega);rw [Qg0 k] at u;refine(Qp3 cb B b off n c p (cN f n p) f aT aS aL aE w hn hf hcur k z hE hBc (hab _ rfl) o i).mono ?_;rintro e w1 ⟨r,⟨j,rfl,m⟩|⟨j,E,rfl,s,g,y,m⟩⟩
  ·refine⟨r,.inl ⟨guV f n p (cN f n p),guA f n p (cN f n p),u.1,fun most=> ?_,rfl,m⟩⟩;rw [Qa4];unfold rd;rw [Qg0 k,j];simp
  ·refine⟨r,.inr ⟨fun most=> ?_,_,_,y,rfl,m⟩⟩;rw [Qa4];unfold rd;rw [Qg0 k];simp [j]
theorem QbL (cb B:Nat)(a:Option Addr)(n c:Nat)(x most:Int)(f:Nat ->Int)(aT aS aL aE:Addr)(w:World)(hn:n<=1048576)(hf:Byt f)(hcur:Cur EX w cb a n c x)(hs:Seg w a n f)(hab:∀y,a=some y ->y.block≠cb)(hE:QcQ w B aT aS aL aE)(hBc:B<=cb)
  (hm0: -1000000000000<=most) (hm1:most<=1000000000000):
  Calls Tryz.prog 69 #[.pointer (some ⟨cb,0,none⟩),.int .i64 most] w fun e w'=>w.grownBy w' (some cb)/\
   ((∃V x':Nat,rdI f n x most=some (V,x')/\ (V:Int)<=most/\ e=.returned (.tuple #[.int .i64 (V:Int),.nilIface])/\ Cur EX w' cb a n c (x':Int)) \/
    (rdI f n x most=none/\∃(t:TypeId) (v:Value) (y:Int),e=.returned (.tuple #[.int .i64 0,.iface t v])/\ Cur EX w' cb a n c y)):=by
 have O:=hcur.lt;have g:=hid (uvC cb B a n c x f aT aS aL aE w hn hf hcur hs hab hE hBc);have h:=hid hE;clear hE hcur hs hab;go_enter Tryz.func69,Tryz.ntmps69;go_wp2_with fail;refine g.mono ?_;rintro e w1 ⟨u,⟨V,x',M,z,rfl,r⟩|⟨z,t,v,y,rfl,r⟩⟩
 ·have i:=h.below ((Below.refl B w).grown u (by omega) (fun k hk=>by injection hk with hk;omega));obtain⟨U,Q⟩:=i.gM;have m:=hid u;have q:=hid z;have j:=hid r;clear u z r i g h;by_cases s:most<0
  ·go_wp2_with fail;go_quiet (fail);go_wp2_with fail;go_ret2;exact⟨Qaf m.out (Qa3 _ _ _),.inr ⟨by rw [q.out,if_neg (by omega)],_,_,_,rfl,j.below (Qbb zI _) j.lt⟩⟩
  ·have E:IntKind.u64.wrap most=most:=by rw [IntKind.wrap_u64];omega
   have A:decide (most<0)=false:=by simpa using s
   by_cases o:(V:Int)<=most
   ·have b:decide (most<(V:Int))=false:=by simpa using o
    have p:IntKind.i64.wrap (V:Int)=(V:Int):=by rw [IntKind.wrap_i64];omega
    go_wp2_with fail;go_ret2;refine⟨m.out,.inl ⟨V,x',by rw [q.out,if_pos o],o,?_,j.out⟩⟩;first|rfl|rw [p]
   ·have b:decide (most<(V:Int))=true:=by simp;omega
    go_wp2_with fail;go_quiet (fail);go_wp2_with fail;go_ret2;exact⟨Qaf m.out (Qa3 _ _ _),.inr ⟨by rw [q.out,if_neg (by omega)],_,_,_,rfl,j.below (Qbb zI _) j.lt⟩⟩
 ·have m:=hid u;have q:=hid z;have j:=hid r;clear u z r g h;go_wp2_with fail;go_ret2;exact⟨m.out,.inr ⟨q.out _,_,_,_,rfl,j.out⟩⟩
end Go.Proofs.YtjdcfkmhmnblbaaGreatDoor
