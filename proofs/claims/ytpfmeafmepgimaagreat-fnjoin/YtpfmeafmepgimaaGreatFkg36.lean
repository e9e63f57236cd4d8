import Derived.Test.YtpfmeafmepgimaaGreatFkg19
import Derived.Test.YtpfmeafmepgimaaGreatFkhShel2
import Derived.Shelf.SlIter.Collect
import Derived.Sort.MapsRangeIn
import Derived.WalkSmall
import Derived.Shelf.SlSortCmp.NoneTotal
import Derived.RangeFuncBound
set_option linter.unusedVariables false
set_option linter.unusedSimpArgs false
set_option maxRecDepth 100000
set_option maxHeartbeats 40000000
namespace Go.Proofs.YtpfmeafmepgimaaGreat
open Go.ChangeShapes Go.WideShapes Go.ChangeAt Go.RowKit Go.Maps Go.Sort Go.Lib Go.Shelf
theorem keysItK (n l Bm b nn:Nat)(f:Ky ->Option (Nat×Nat))(D0:DataW Value)(J:List Ky ->World ->Prop)(hn:1<=n)
  (hY:∀pre x W,J pre W ->pre.length<Maps.size D0 ->YieldAt Fence.wide (n - 1) Tryz.prog l #[keyV x] W fun e W'=>e=.returned (.bool true)/\ J (pre++[x]) W'/\ KeepsWalks W W')
  (W:World) (hJ:AbidesFrom W.heap.size J) (hm:W.cell? ⟨Bm,0,none⟩=some (.map (some b))) (hF:FM W 102 keyV nodV b nn f D0) (h0:J [] W):
  CallsIn Fence.wide n Tryz.prog 108 #[.func (.yield l) #[] #[],.pointer (some ⟨Bm,0,none⟩)] W fun e W'=>(∃v,e=.returned v)/\∃ss,KeysF f ss/\ J ss W':=by
 have hown:=hF.own;have HF:=hid hF;have HJ:=hid hJ;have HY:=hid hY;clear hF hJ hY;refine callsIn_of_wp Tryz.func108 rfl trivial ?_ rfl;simp only [Tryz.ntmps108,List.size_toArray,List.length_cons,List.length_nil,Nat.reduceAdd,Nat.reduceSub,Array.replicate_succ,Array.replicate_zero,List.push_toArray,List.append_toArray,List.nil_append,List.cons_append];gi_wp2_with (first
  | (gi_at_range;refine wpListIn_range_own _ rfl _ 42 rfl 102 45 keyKeyed Tryz.underlying42 _ b nn _ rfl hown ?_;intro w0 hrg0 hg0 hs0)
  | gi_in)
 try go_frame
 gi_loopw [3] (fun _ wr=>∃(left:Lit ->Bool) (cnt:Nat) (ss:List Ky),wr.ranges Tryz.prog 102 allR b W.heap.size nn D0 left cnt/\ ss.length+cnt<=Maps.size D0/\ CollF 102 keyV f left ss/\ J ss wr)
  (fun _ wr=>wr.rangeLeft b W.heap.size)
 case atStart=>exact⟨_,_,[],hrg0,by simp,CollF.start HF.out,HJ.out [] W w0 none h0 hg0 (fun r e=>by cases e)⟩
 case round=>
  obtain⟨left,cnt,ss,hrg,hcs,hC,hJs⟩:=hrel;have HC:=hid hC;have HCS:=hid hcs;clear hC hcs;gi_wp2_with (first
   | (gi_at_next;refine wpListIn_next_ranges _ rfl _ rfl 102 keyKeyed allR keyV id (fun key kl hk=>keyOf_key hk) (fun v _ _=>⟨v,rfl⟩) b W.heap.size nn _ _ _ rfl hrg ?_ ?_)
   | gi_in)
  ·intro hc0 hl0;gi_wp2
   go_end0;exact⟨⟨_,rfl⟩,ss,HC.out.done HF.out hl0,hJs⟩
  ·intro xs xk c kl yd yp w2 cnt2 hkey hlk hv hat hrg2 hlt hg2 hs2 hen;have hJ2:J ss w2:=HJ.out ss wr w2 (some W.heap.size) hJs hg2 (fun r e=>by cases e;exact⟨Nat.le_refl _,hrg.iter_walk⟩);obtain⟨w3,hw3⟩:∃w3,w2.alloc (.cells #[.string xs,.int .i64 xk] 102)=w3:=⟨_,rfl⟩;have hJ3:J ss w3:=by rw [<- hw3];exact HJ.out ss w2 _ none hJ2 (World.grownBy_alloc w2 _ none) (fun r e=>by cases e)
   obtain⟨fn,tmps,assign,body,hy,hR⟩:=HY.out ss (xs,xk) w3 hJ3 (by have:=HCS.out;omega);have K3:Bx2 w3 w2.heap.size (.string xs) (.int .i64 xk):=by rw [<- hw3];exact Bx2.made _ _ _ _
   have hrg3:=hrg2.alloc (.cells #[.string xs,.int .i64 xk] 102);rw [hw3] at hrg3;have q0:=K3.c0;have q1:=K3.c1;clear hs2 K3;dsimp only [keyV] at hen hy hR ⊢;gi_wp2
   try rw [hw3]
   refine hR.mono ?_;rintro e W3 ⟨rfl,hJ4,hk3⟩;gi_wp2
   have hrg4:=hrg3.of_walks hk3;go_roundw;case rel=>exact⟨_,cnt2,ss++[(xs,xk)],hrg4,by have:=HCS.out;simp;omega,HC.out.step HF.out keyKeyed (fun _ _=>keyV_inj) hkey hlk hat,hJ4⟩
   case measure=>rw [hrg4.left_eq,hrg.left_eq];exact hlt
def kCells (x:Ky):List Value:=[.string x.1,.int .i64 x.2]
def kRow (ss:List Ky):List Value:=ss.flatMap kCells
theorem kRow_snoc (ss:List Ky)(x:Ky):kRow (ss++[x])=kRow ss++kCells x:=by simp [kRow]
theorem infoKey:(Tryz.prog.info? 102).map (fun i=>(i.zero,i.size,i.bytes))=some (some (.agg #[.string ByteArray.empty,.int .i64 0]),2,24):=by kernel_rfl
def apA:Code:=(Code.region 2 #[{dst:=some 5,op:=Op.alloc 102,type:=0,pos:= "iter.go:51",after:=#[],guard:=none},{dst:=none,op:=Op.store 102 (Operand.tmp 5) (Operand.tmp 7),type:=0,pos:= "iter.go:51",after:=#[{on:=0,ground:=Ground.data},{on:=0,ground:=Ground.phase}],guard:=none}] false)
def apB:Code:=(Code.block 1 (Code.region 3 #[{dst:=some 8,op:=Op.load 111 (Operand.tmp 2),type:=111,pos:= "iter.go:52",after:=#[],guard:=none},{dst:=some 9,op:=Op.load 102 (Operand.tmp 5),type:=102,pos:= "iter.go:52",after:=#[],guard:=none},{dst:=some 10,op:=Op.buildSlice 111 1 #[(0,Operand.tmp 9)],type:=111,pos:= "iter.go:52",after:=#[{on:=1,ground:=Ground.data}],guard:=none},{dst:=some 11,op:=Op.call {callee:=Callee.builtin Builtin.append,args:=#[Operand.tmp 8,Operand.tmp 10],argTypes:=#[111,111]},type:=111,pos:= "iter.go:52",after:=#[{on:=0,ground:=Ground.data},{on:=2,ground:=Ground.data}],guard:=none},{dst:=none,op:=Op.store 111 (Operand.tmp 2) (Operand.tmp 11),type:=0,pos:= "iter.go:52",after:=#[{on:=3,ground:=Ground.data},{on:=3,ground:=Ground.chain},{on:=0,ground:=Ground.phase},{on:=1,ground:=Ground.phase},{on:=2,ground:=Ground.phase},{on:=3,ground:=Ground.phase}],guard:=none}] false))
def apRec (fn:FuncId)(sv:Value)(Bs D:Nat)(st:LoopState):Loop:=
 {state:=st,pending:=none,fn,tmps:=#[.slice none 0 0,sv,.pointer (some ⟨Bs,0,none⟩),undef,.slice none 0 0,undef,sv,undef,undef,undef,undef,undef,undef],params:=#[7],assign:=apA,body:=apB,defers:=D}
structure ApAt (w0:World)(fn:FuncId)(sv:Value)(Bs l D:Nat)(ss:List Ky)(W:World):Prop where
 box:∃v,W.heap[Bs]? =some (.cells #[v] 111 (0,0))/\ W.ownsRow w0.heap.size 102 2 v ss.length (kRow ss)/\ (v=.slice none 0 0↔ss=[])
 L:W.heap[l]? =some (.loop (apRec fn sv Bs D .ready))
 K:W.heap[D]? =some (.deferred (some []))
 below:RowKit.Below w0.heap.size w0 W
theorem ap_abides (w0:World)(fn:FuncId)(sv:Value)(Bs l D B:Nat)(hB:w0.heap.size<=B):AbidesFrom B (ApAt w0 fn sv Bs l D):=fun s W W' row h hg hrow=>by
 have hrow':∀r,row=some r ->∃o:Obj,W.heap[r]? =some o/\ o.isWalk=true:=fun r e=>(hrow r e).2;obtain⟨v,hv,hr,hn⟩:=h.box;exact⟨⟨v,(grownBy_keeps hg hrow' hv rfl).trans hv,ownsRow_abides_a hr hg hrow',hn⟩,(grownBy_keeps hg hrow' h.L rfl).trans h.L,(grownBy_keeps hg hrow' h.K rfl).trans h.K,h.below.grown hg h.below.size (fun k e=>Nat.le_trans hB (hrow k e).1)⟩
theorem apYieldK (m:Nat)(w0:World)(fn:FuncId)(sv:Value)(Bs l D:Nat)(hBl:Bs≠l)(hDl:D≠l)(hDB:D≠Bs)(h0B:w0.heap.size<=Bs)(h0l:w0.heap.size<=l)
    (N:Nat) (hN:N<=maxLen) (hNb:N*24<=140737488355328) (ss:List Ky) (x:Ky) (W:World) (h:ApAt w0 fn sv Bs l D ss W) (hlen:ss.length<N):
    YieldAt Fence.wide m Tryz.prog l #[keyV x] W fun e W'=>e=.returned (.bool true)/\ ApAt w0 fn sv Bs l D (ss++[x]) W'/\ KeepsWalks W W':=by
  have hne:111≠102:=by decide
  obtain⟨i0,hi,hz0,hz1,hz2⟩:=info_parts infoKey;refine⟨fn,#[.slice none 0 0,sv,.pointer (some ⟨Bs,0,none⟩),undef,.slice none 0 0,undef,sv,keyV x,undef,undef,undef,undef,undef],apA,apB,by simpa [apRec] using run_yield (P:=Tryz.prog) (args:=#[keyV x]) h.L rfl,roundIn_of_wpIn trivial ?_⟩;obtain⟨xs,xk⟩:=x;obtain⟨W1,hW1⟩:∃W1,W.alloc (.cells #[.string xs,.int .i64 xk] 102)=W1:=⟨_,rfl⟩;have h1:ApAt w0 fn sv Bs l D ss W1:=by rw [<- hW1];exact ap_abides w0 fn sv Bs l D w0.heap.size (Nat.le_refl _) ss W _ none h (World.grownBy_alloc W _ none) (fun r e=>by cases e)
  have hk1:KeepsWalks W W1:=by rw [<- hW1];exact KeepsWalks.alloc _ _
  have X1:Bx2 W1 W.heap.size (.string xs) (.int .i64 xk):=by rw [<- hW1];exact Bx2.made _ _ _ _
  have hlW:l<W.heap.size:=(Array.getElem?_eq_some_iff.1 h.L).1;obtain⟨v,hv,hrow,_⟩:=h1.box;have hl:l<W1.heap.size:=(Array.getElem?_eq_some_iff.1 h1.L).1;have hbr:=run_beginRound (P:=Tryz.prog) h1.L rfl;obtain⟨W2,hW2⟩:∃W2,W1.putObj l (.loop {apRec fn sv Bs D .ready with state:=.busy})=W2:=⟨_,rfl⟩;rw [hW2] at hbr;have hg2:W1.grownBy W2 (some l):=by rw [<- hW2];exact grownBy_putObj_a _ _ _
  have hk2:KeepsWalks W W2:=hk1.trans (by rw [<- hW2];exact KeepsWalks.putObj _ h1.L rfl);have hv2:W2.heap[Bs]? =some (.cells #[v] 111 (0,0)):=by rw [<- hW2];exact(World.putObj_heap_other hBl).trans hv
  have hK2:W2.heap[D]? =some (.deferred (some [])):=by rw [<- hW2];exact(World.putObj_heap_other hDl).trans h1.K
  have hL2:W2.heap[l]? =some (.loop {apRec fn sv Bs D .ready with state:=.busy}):=by rw [<- hW2];exact World.putObj_heap_same hl
  have hrow2:W2.ownsRow w0.heap.size 102 2 v ss.length (kRow ss):=hrow.kept hg2 (ownsRow_ne_a hrow h1.L (fun cur e=>by cases e));have hb2:RowKit.Below w0.heap.size w0 W2:=h1.below.grown hg2 h1.below.size (fun k e=>by cases e;exact h0l);have e2:W2.heap[W.heap.size]? =W1.heap[W.heap.size]? :=hg2.block _ X1.lt (fun e=>by injection e with e;omega);have q0:W2.cell? ⟨W.heap.size,0,none⟩=some (.string xs):=(World.cell?_of_block (a:=⟨W.heap.size,0,none⟩) e2).trans X1.c0;have q1:W2.cell? ⟨W.heap.size,1,none⟩=some (.int .i64 xk):=(World.cell?_of_block (a:=⟨W.heap.size,1,none⟩) e2).trans X1.c1;obtain⟨hc2,hf2⟩:=cell_of_box_a hv2;have hBlt:Bs<W2.heap.size:=(Array.getElem?_eq_some_iff.1 hv2).1;have hl2:l<W2.heap.size:=(Array.getElem?_eq_some_iff.1 hL2).1;have hDlt:D<W2.heap.size:=(Array.getElem?_eq_some_iff.1 hK2).1;have ne_of:∀{j:Nat} {o:Obj},W2.heap[j]? =some o ->(∀cur,o≠.cells cur 102 (0,0)) ->some j≠v.ownBlock:=fun hj hno=>by
    rcases ownsRow_ne_a hrow2 hj hno with e|e
    · rw [e];simp
    · exact fun e'=>e e'.symm
  have HR2:=hid hrow2;have HZ:=hid hb2.size;clear hW2 hrow hrow2 X1 e2 hg2 hk1;unfold apA;dsimp only [keyV];gi_wp2_with gi_round_op_a
  unfold apB;gi_wp2_with (first
    | (gi_at_builtin;refine wpListIn_append_own _ rfl _ _ 111 rfl w0.heap.size 102 i0 (.agg #[.string ByteArray.empty,.int .i64 0]) 2 24 Tryz.underlying111 hi hz0 hz1 hz2 rfl (by decide) _ _ _ rfl (HR2.out.alloc _) ⟨W2.heap.size,0,none⟩ 1 1 [.string xs,.int .i64 xk] rfl rfl (cell_two_new _ _ _ _) (by simp [Value.oneCell']) (by omega) (by omega) (by have:=HZ.out;simp;omega) ?_;intro v' w3 hown' hg3 hnil3
       have hv3:w3.heap[Bs]? =some (.cells #[v] 111 (0,0)):=(hg3.block Bs (by simp;omega) (ne_of hv2 (fun cur e=>hne (Obj.cells.inj e).2.1))).trans ((Below.heap_alloc _ _ Bs hBlt).trans hv2)
       obtain⟨hc3,hf3⟩:=cell_of_box_a hv3
       obtain⟨g',cap',cur',rfl,hbase',hgb',hr1,hr2,hr3,hr4⟩:∃g' cap' cur',v'=.slice (some ⟨g',0,none⟩) (ss.length+1) cap'/\ w0.heap.size<=g'/\ w3.heap[g']? =some (.cells cur' 102 (0,0))/\ ss.length+1<=cap'/\ cap'<=maxLen/\ cur'.size=cap'*2/\ cur'.toList.take ((ss.length+1)*2)=kRow ss++[.string xs,.int .i64 xk]:=by
         rcases hown'.2 with ⟨_,h0⟩|h'
         · exact absurd h0 (by omega)
         · exact h'
       have HOW:=hid hown'
       clear hown'
       try go_frame)
    | gi_round_op_a)
  have hg3':(W2.alloc (.cells #[.string xs,.int .i64 xk] 102)).grownBy w3 v.ownBlock:=hg3;have hL3:w3.heap[l]? =some (.loop {apRec fn sv Bs D .ready with state:=.busy}):=(hg3'.block l (by simp;omega) (ne_of hL2 (fun cur e=>by cases e))).trans ((Below.heap_alloc _ _ l hl2).trans hL2);have hK3:w3.heap[D]? =some (.deferred (some [])):=(hg3'.block D (by simp;omega) (ne_of hK2 (fun cur e=>by cases e))).trans ((Below.heap_alloc _ _ D hDlt).trans hK2);obtain⟨w4,hw4⟩:∃w4,w3.setCell ⟨Bs,0,none⟩ (.slice (some ⟨g',0,none⟩) (ss.length+1) cap')=w4:=⟨_,rfl⟩;rw [hw4];have hg4:w3.grownBy w4 (some Bs):=by rw [<- hw4];exact grownBy_setCell0_a _ _ _
  have hv4:w4.heap[Bs]? =some (.cells #[.slice (some ⟨g',0,none⟩) (ss.length+1) cap'] 111 (0,0)):=by rw [<- hw4];exact heap_setCell_box_a _ hv3
  have hL4:w4.heap[l]? =some (.loop {apRec fn sv Bs D .ready with state:=.busy}):=(hg4.block l (Array.getElem?_eq_some_iff.1 hL3).1 (fun e=>hBl (by cases e;rfl))).trans hL3;have hK4:w4.heap[D]? =some (.deferred (some [])):=(hg4.block D (Array.getElem?_eq_some_iff.1 hK3).1 (fun e=>hDB (by cases e;rfl))).trans hK3;have hrow4:=HOW.out.kept hg4 (ownsRow_ne_a HOW.out hv3 (fun cur e=>hne (Obj.cells.inj e).2.1));have hl4:l<w4.heap.size:=(Array.getElem?_eq_some_iff.1 hL4).1;have hb3:RowKit.Below w0.heap.size w0 w3:=(hb2.alloc hb2.size _).grown hg3' (by have:=hb2.size;simp;omega) (fun k e=>(HR2.out.lt k e).1);have hb4:RowKit.Below w0.heap.size w0 w4:=hb3.grown hg4 hb3.size (fun k e=>by cases e;exact h0B);have hk4:KeepsWalks W w4:=((hk2.trans (KeepsWalks.alloc _ _)).trans (KeepsWalks.of_grownBy hg3' (ownsRow_not_walk_a (HR2.out.alloc _)))).trans (by rw [<- hw4];exact KeepsWalks.setCell _ _ _);clear hw4;refine⟨_,_,run_endRound none hL4,rfl,⟨⟨_,(World.putObj_heap_other hBl).trans hv4,?_,by simp⟩,World.putObj_heap_same hl4,(World.putObj_heap_other hDl).trans hK4,hb4.grown (grownBy_putObj_a _ _ _) hb4.size (fun k e=>by cases e;exact h0l)⟩,hk4.trans (KeepsWalks.putObj _ hL4 rfl)⟩;have:=hrow4.kept (grownBy_putObj_a w4 l (.loop {{apRec fn sv Bs D .ready with state:=.busy} with state:=if (none:Option Code).isNone then .ready else .done,pending:=none})) (ownsRow_ne_a hrow4 hL4 (fun cur e=>by cases e));rw [kRow_snoc];simpa [kCells] using this
theorem appendSeqK (n:Nat)(hn:2<=n)(g:Nat)(lb:Array Value)(eg:∀args w,(callFunc g args).run Tryz.prog w=.ok (.enter g args) w)
  (S:List Ky ->Prop) (N:Nat) (hN:N<=maxLen) (hNb:N*24<=140737488355328) (w:World) (hseq:SeqGives Fence.wide (n - 1) Tryz.prog g lb keyV S N w):
  CallsIn Fence.wide n Tryz.prog 126 #[.slice none 0 0,.func (.func g) #[] lb] w fun e w'=>∃(v:Value) (ss:List Ky),e=.returned v/\ S ss/\ w'.ownsRow w.heap.size 102 2 v ss.length (kRow ss)/\ (v=.slice none 0 0↔ss=[])/\ RowKit.Below w.heap.size w w':=by
 have hne:111≠102:=by decide
 refine callsIn_of_wp_marks Tryz.func126 rfl trivial ?_ rfl;simp only [Tryz.ntmps126,List.size_toArray,List.length_cons,List.length_nil,Nat.reduceAdd,Nat.reduceSub,Array.replicate_succ,Array.replicate_zero,List.push_toArray,List.append_toArray,List.nil_append,List.cons_append];gi_wp2
 refine wpIn_rangeFunc ?_;intro fn hfn;obtain⟨W0,hW0⟩:∃W0,w.alloc (.cells #[.slice none 0 0] 111)=W0:=⟨_,rfl⟩;have hs0:W0.heap.size=w.heap.size+1:=by rw [<- hW0];simp
 have hv0:W0.heap[w.heap.size]? =some (.cells #[.slice none 0 0] 111 (0,0)):=by rw [<- hW0];exact World.alloc_heap_new w _
 have hb0:RowKit.Below w.heap.size w W0:=by rw [<- hW0];exact(RowKit.Below.refl _ w).alloc (Nat.le_refl _) _
 rw [hW0];obtain⟨W1,hW1⟩:∃W1,(W0.alloc (.deferred (some []))).alloc (.loop (apRec fn (.func (.func g) #[] lb) w.heap.size W0.heap.size .ready))=W1:=⟨_,rfl⟩;have hold:∀k,k<W0.heap.size ->W1.heap[k]? =W0.heap[k]? :=fun k hk=>by
  rw [<- hW1];exact(Below.heap_alloc _ _ k (by simp;omega)).trans (Below.heap_alloc _ _ k hk)
 have hb1:RowKit.Below w.heap.size w W1:=by rw [<- hW1];exact(hb0.alloc hb0.size _).alloc (by have:=hb0.size;simp;omega) _
 have hM:ApAt w fn (.func (.func g) #[] lb) w.heap.size (W0.heap.size+1) W0.heap.size [] W1:=
  ⟨⟨_,(hold w.heap.size (by omega)).trans hv0,⟨rfl,.inl ⟨rfl,rfl⟩⟩,by simp⟩,
   by rw [<- hW1];have:=World.alloc_heap_new (W0.alloc (.deferred (some []))) (.loop (apRec fn (.func (.func g) #[] lb) w.heap.size W0.heap.size .ready));rwa [World.size_alloc] at this,
   by rw [<- hW1];exact(Below.heap_alloc _ _ _ (by simp)).trans (World.alloc_heap_new W0 _),hb1⟩
 refine⟨W0.heap.size+1,[{target:=.collected W0.heap.size,args:=#[]}],W1,{target:=.fn (.func g) lb,args:=#[.func (.yield (W0.heap.size+1)) #[] #[]]},W1,g,
  #[.func (.yield (W0.heap.size+1)) #[] #[]]++lb,W1,?_,?_,?_,?_,fun _=>by omega,?_⟩
 ·rw [<- hW1];exact run_enterLoop_outer _ _ _ _ _
 ·simp [resolve,go_sem]
 ·intro f' hf';trivial
 ·simp [invoke,go_sem,eg]
 ·refine(hseq (W0.heap.size+1) (ApAt w fn (.func (.func g) #[] lb) w.heap.size (W0.heap.size+1) W0.heap.size) W1 hb1 (ap_abides _ _ _ _ _ _ _ hb1.size)
   (fun pre x W hJ hl=>apYieldK (n - 1 - 1) w fn _ w.heap.size (W0.heap.size+1) W0.heap.size (by omega) (by omega) (by omega) (Nat.le_refl _) (by omega) N hN hNb pre x W hJ hl) hM).mono ?_
  rintro e W2 ⟨⟨v0,rfl⟩,ss,hS,h2⟩;obtain⟨v,hv,hrow,hnil⟩:=h2.box;have hend:=run_endLoop (P:=Tryz.prog) h2.L (by simp [apRec]);obtain⟨W3,hW3⟩:∃W3,W2.putObj (W0.heap.size+1) (.loop {apRec fn (.func (.func g) #[] lb) w.heap.size W0.heap.size .ready with state:=.exhausted})=W3:=⟨_,rfl⟩;rw [hW3] at hend;have hg3:W2.grownBy W3 (some (W0.heap.size+1)):=by rw [<- hW3];exact grownBy_putObj_a _ _ _
  have hv3:W3.heap[w.heap.size]? =some (.cells #[v] 111 (0,0)):=by rw [<- hW3];exact(World.putObj_heap_other (by omega)).trans hv
  have hK3:W3.heap[W0.heap.size]? =some (.deferred (some [])):=by rw [<- hW3];exact(World.putObj_heap_other (by omega)).trans h2.K
  have hrow3:=hrow.kept hg3 (ownsRow_ne_a hrow h2.L (fun cur e=>by cases e));have hb3:RowKit.Below w.heap.size w W3:=h2.below.grown hg3 h2.below.size (fun k e=>by cases e;omega);obtain⟨hc3,hf3⟩:=cell_of_box_a hv3;have HR:=hid hrow3;clear hW3 hrow hrow3;refine⟨none,W3,hend,?_⟩;gi_wp2
  rw [<- hs0];refine⟨by simp,.inl ⟨_,_,rfl,run_takeDeferred hK3,?_⟩⟩;exact⟨_,results_tmp rfl _ _ _,v,ss,rfl,hS,HR.out.kept (grownBy_putObj_a _ _ _) (ownsRow_ne_a HR.out hK3 (fun cur e=>by cases e)),hnil,hb3.grown (grownBy_putObj_a _ _ _) hb3.size (fun k e=>by cases e;omega)⟩
theorem collectK (g:Nat)(lb:Array Value)(eg:∀args w,(callFunc g args).run Tryz.prog w=.ok (.enter g args) w)
  (S:List Ky ->Prop) (N:Nat) (hN:N<=maxLen) (hNb:N*24<=140737488355328) (w:World) (hseq:SeqGives Fence.wide 4 Tryz.prog g lb keyV S N w):
  Calls Tryz.prog 106 #[.func (.func g) #[] lb] w fun e w'=>∃(v:Value) (ss:List Ky),e=.returned v/\ S ss/\ w'.ownsRow w.heap.size 102 2 v ss.length (kRow ss)/\ (v=.slice none 0 0↔ss=[])/\ RowKit.Below w.heap.size w w':=by
 have HA:=hid ((callsIn_wide (n:=5)).1 (appendSeqK 5 (by omega) g lb eg S N hN hNb w hseq));go_enter Tryz.func106,Tryz.ntmps106;go_wp2_with fail;refine HA.out.mono ?_;rintro e w' ⟨v,ss,rfl,hS,hrow,hnil,hb⟩;have HX:=hid (And.intro hS (And.intro hrow (And.intro hnil hb)));clear hS hrow hnil hb HA;go_wp2_with fail;go_ret;exact⟨v,ss,rfl,HX.out.1,HX.out.2.1,HX.out.2.2.1,HX.out.2.2.2⟩
theorem keysGivesK (Bm b nn:Nat)(f:Ky ->Option (Nat×Nat))(D0:DataW Value)(w:World)(hBm:Bm<w.heap.size)(hm:w.cell? ⟨Bm,0,none⟩=some (.map (some b)))(hF:FM w 102 keyV nodV b nn f D0):
  SeqGives Fence.wide 4 Tryz.prog 108 #[.pointer (some ⟨Bm,0,none⟩)] keyV (KeysF f) (Maps.size D0) w:=fun l J W hW hJ hY h0=>by
 have hF':FM W 102 keyV nodV b nn f D0:=⟨own_same hF.own (hW.block b hF.own.lt),hF.at',hF.cov,hF.ok⟩;exact keysItK 4 l Bm b nn f D0 J (by omega) hY W hJ ((hW.cell (p:=⟨Bm,0,none⟩) hBm).trans hm) hF' h0
theorem compareKeysW (x y:Ky)(w:World):Calls Tryz.prog 87 #[.agg #[.string x.1,.int .i64 x.2],.agg #[.string y.1,.int .i64 y.2]] w fun e w'=>e=.returned (.int .i64 (cmpK x y))/\ Bw w w':=by
 obtain⟨s,k⟩:=x;obtain⟨s',k'⟩:=y;dsimp only;obtain⟨W,hW⟩:∃W,(w.alloc (.cells #[.string s,.int .i64 k] 102)).alloc (.cells #[.string s',.int .i64 k'] 102)=W:=⟨_,rfl⟩;have b0:Bw w W:=by rw [<- hW];exact⟨below2 _ _ _,Nat.le_refl _⟩
 have X0:Bx2 W w.heap.size (.string s) (.int .i64 k):=by rw [<- hW];exact(Bx2.made w _ _ _).allocs _
 have X1:Bx2 W (w.heap.size+1) (.string s') (.int .i64 k'):=by rw [<- hW];simpa using Bx2.made (w.alloc (.cells #[.string s,.int .i64 k] 102)) (.string s') (.int .i64 k') 102
 have HB0:=hid b0;have HX0:=hid X0;have HX1:=hid X1;clear b0 X0 X1;go_enter Tryz.func87,Tryz.ntmps87;go_wp2_with fail;try rw [hW]
 clear hW;have HCS:Hid (∀w',Bw W w' ->(Bw W w'/\ w'.cell? ⟨w.heap.size,0,none⟩=some (.string s)/\ w'.cell? ⟨w.heap.size,1,none⟩=some (.int .i64 k)/\ w'.cell? ⟨w.heap.size+1,0,none⟩=some (.string s')/\ w'.cell? ⟨w.heap.size+1,1,none⟩=some (.int .i64 k'))):=hid (fun w' hB=>by
  have x0:=HX0.out.below hB.1 HX0.out.lt;have x1:=HX1.out.below hB.1 HX1.out.lt;exact⟨hB,x0.c0,x0.c1,x1.c0,x1.c1⟩)
 refine wp_region_held_drew (S:=fun w'=>Bw W w'/\ w'.cell? ⟨w.heap.size,0,none⟩=some (.string s)/\ w'.cell? ⟨w.heap.size,1,none⟩=some (.int .i64 k)/\ w'.cell? ⟨w.heap.size+1,0,none⟩=some (.string s')/\ w'.cell? ⟨w.heap.size+1,1,none⟩=some (.int .i64 k')) (by kernel_rfl) (HCS.out _ ⟨(RowKit.Below.refl _ _).drew,Nat.le_succ _⟩) (fun hHeld=> ?_);refine tZ 0 5 ?_;refine tZ 1 6 ?_;refine tZ 2 7 ?_;refine tZ 3 8 ?_;refine tZ 5 10 ?_;refine tZ 6 11 ?_;refine tZ 7 12 ?_;refine tZ 8 13 ?_;refine cZ 4 ?_;intro K hK;go_simp;refine(cmpStr s s' _).mono ?_;rintro e w1 ⟨rfl,rfl⟩;refine hK.out _ _ hHeld (fun hHeld=> ?_);clear hK K;try simp only [Act.put,sZa,sZb,sZc]
 refine cZ 9 ?_;intro K hK;go_simp;refine(compare k k' _).mono ?_;rintro e w2 ⟨rfl,rfl⟩;refine hK.out _ _ hHeld (fun hHeld=> ?_);clear hK K;try simp only [Act.put,sZa,sZb,sZc]
 refine cZ 10 ?_;intro K hK;go_simp;have hB:Bw W (W.drew.alloc (.cells #[.int .i64 (cmpS s s'),.int .i64 (cmpI k k')] 3)):=⟨hHeld.1.1.alloc hHeld.1.1.size _,hHeld.1.2⟩;refine hK.out _ _ (HCS.out _ hB) (fun hHeld=> ?_);clear hK K;try simp only [Act.put,sZa,sZb,sZc]
 refine cZ 11 ?_;intro K hK;go_simp;refine(cmpOr _ 2 2 (fun i=>if i=0 then cmpS s s' else cmpI k k') _ (by omega) (fun i hi=> ?_)).mono ?_
 ·match i,hi with
  | 0,_=>simp
  | 1,_=>simp
 rintro e w3 ⟨rfl,rfl⟩;refine hK.out _ _ hHeld (fun hHeld=> ?_);clear hK K;try simp only [Act.put,sZa,sZb,sZc]
 refine tZ 12 4 ?_;refine wpAnyH_done (by kernel_rfl) ?_ _;have HB:Hid (Bw w (W.drew.alloc (.cells #[.int .i64 (cmpS s s'),.int .i64 (cmpI k k')] 3))):=hid ⟨HB0.out.1.trans (hHeld.1.1.mono HB0.out.1.size),Nat.le_trans HB0.out.2 hHeld.1.2⟩;clear hHeld hB;go_wp2_with fail;go_ret;exact⟨ret_i nz2,HB.out⟩
instance:Inhabited Ky:=⟨(ByteArray.empty,0)⟩
theorem kCells_len (x:Ky):(kCells x).length=2:=rfl
theorem kRow_len (ss:List Ky):(kRow ss).length=ss.length*2:=by
 induction ss with
 | nil=>rfl
 | cons x r ih=>simp only [kRow,List.flatMap_cons,List.length_append,List.length_cons] at*;rw [ih,kCells_len];omega
theorem kRow_get:∀(ss:List Ky) (t:Nat),t<ss.length*2 ->(kRow ss)[t]? =some ((kCells ss.toArray[t/2]!)[t%2]!)
 | [],t,h=>by simp at h
 | x::r,t,h=>by
  rcases Nat.lt_or_ge t 2 with h2|h2
  ·have:t=0 \/t=1:=by omega
   rcases this with rfl|rfl<;>simp [kRow,kCells]
  ·obtain⟨u,rfl⟩:∃u,t=u+2:=⟨t - 2,by omega⟩;have ih:=kRow_get r u (by simp at h;omega);have e1:(u+2)/2=u/2+1:=by omega
   have e2:(u+2)%2=u%2:=by omega
   rw [e1,e2];have hu:u/2<r.length:=by simp at h;omega
   have e3:(x::r).toArray[u/2+1]! =r.toArray[u/2]! :=by
    rw [getElem!_pos _ _ (by simp;omega),getElem!_pos _ _ (by simpa using hu)];simp
   rw [e3,<- ih];simp [kRow,kCells]
theorem flat_kRow (ss:List Ky):(flatK kCells 2 ss.toArray).toList=kRow ss:=by
 apply List.ext_getElem?;intro t;by_cases h:t<ss.length*2
 ·rw [kRow_get ss t h];have h':t<(flatK kCells 2 ss.toArray).size:=by simpa using h
  have:=get_flatK kCells 2 ss.toArray t (by simpa using h);rw [getElem!_pos _ t h'] at this;rw [Array.getElem?_toList,Array.getElem?_eq_getElem h',this]
 ·rw [List.getElem?_eq_none (by simp;omega),List.getElem?_eq_none (by rw [kRow_len];omega)]
theorem heap_sortedK {w:World}{g n:Nat}{os:Array Obj}{cur:Array Value}{e:TypeId}{fr:Nat×Nat}(d:Array Value)(hb:w.heap[g]? =some (.cells cur e fr)):
  (grow (putRow id (Sort.ahead w n) g 0 d) os).heap[g]? =some (.cells (putCells id 0 d cur) e fr):=by
 have hg:g<w.heap.size:=(Array.getElem?_eq_some_iff.1 hb).1;rw [heap_grow_old _ _ (by simpa [putRow,mapBlock,Sort.ahead] using hg)];simp [putRow,mapBlock,Sort.ahead,Array.getElem?_modify,hb,onCells]
theorem grownBy_sortedK {w:World}{g n:Nat}{os:Array Obj}(d:Array Value):w.grownBy (grow (putRow id (Sort.ahead w n) g 0 d) os) (some g):=by
 refine⟨rfl,rfl,rfl,by simp [grow,putRow,mapBlock,Sort.ahead],fun k hk hne=> ?_⟩;rw [heap_grow_old _ _ (by simpa [putRow,mapBlock,Sort.ahead] using hk)];have:g≠k:=fun e=>hne (by rw [e]);simp [putRow,mapBlock,Sort.ahead,Array.getElem?_modify,this]
theorem take_putV (cur:Array Value)(ts:List Value)(h:ts.length<=cur.size):(putCells id 0 ts.toArray cur).toList.take ts.length=ts:=by
 apply List.ext_getElem?;intro j;by_cases hj:j<ts.length
 ·rw [List.getElem?_take_of_lt hj,Array.getElem?_toList];simp [putCells,hj,show j<cur.size by omega]
 ·rw [List.getElem?_take_eq_none (by omega),List.getElem?_eq_none (by omega)]
theorem eg_cmpK:∀args w,(callFunc 87 args).run Tryz.prog w=.ok (.enter 87 args) w:=enters_of Tryz.func87 (by kernel_rfl) rfl
theorem cmpLaysK (blk off size:Nat)(w:World):CmpLays Tryz.prog 87 #[] kCells 2 cmpK blk off size w:=fun m os dk _ x y=>
 (compareKeysW x y _).mono fun e w' ⟨he,hb⟩=>⟨he,hb.grown⟩
theorem sortFuncK (B blk cap:Nat)(ss:List Ky)(w:World)(ho:w.ownsRow B 102 2 (.slice (some ⟨blk,0,none⟩) ss.length cap) ss.length (kRow ss))(hsz:ss.length<=1048576):
  Calls Tryz.prog 107 #[.slice (some ⟨blk,0,none⟩) ss.length cap,.func (.func 87) #[] #[]] w fun e w'=>e=.returned (.tuple #[])/\∃ts:List Ky,ts.Perm ss/\ SortedIn (ltOf cmpK) 0 ts.length ts.toArray/\ w'.ownsRow B 102 2 (.slice (some ⟨blk,0,none⟩) ss.length cap) ss.length (kRow ts)/\ w.grownBy w' (some blk):=by
 rcases ho.2 with ⟨h0,_⟩|⟨g',cap',cur,hv,hbase,hb,h1,h2,h3,h4⟩
 ·cases h0
 cases hv;have hblk:blk<w.heap.size:=(Array.getElem?_eq_some_iff.1 hb).1;have hH:HoldsK kCells 2 w blk 0 ss.toArray:=by
  intro t ht;have ht':t<ss.length*2:=by simpa using ht
  refine⟨?_,by simp [World.frozen?,hb]⟩;have e1:(cur.toList.take (ss.length*2))[t]? =(kRow ss)[t]? :=by rw [h4]
  rw [List.getElem?_take_of_lt ht',kRow_get ss t ht'] at e1;have e2:=get_flatK kCells 2 ss.toArray t (by simpa using ht');rw [e2];simp only [World.cell?,hb,Nat.zero_add,Option.isSome_none,Bool.false_eq_true,if_false];rw [<- Array.getElem?_toList,e1];rfl
 have hcon:=AnyQ.slices_SortFunc Tryz.sortK 2 Tryz.isAgg102 Tryz.sizeOf102 kCells kCells_len (fun x v hv=>by simp [kCells] at hv;rcases hv with rfl|rfl<;>rfl) cmpK CmpT.key.swo 87 #[] blk 0 cap ss.toArray w eg_cmpK (cmpLaysK blk 0 _ w) hH hblk (by simp;omega);change Calls Tryz.prog 107 _ _ _ at hcon;simp only [List.size_toArray] at hcon;refine hcon.mono ?_;rintro e w' ⟨rfl,d',n,os,hp,hs,rfl⟩;have hd:d'.size=ss.length:=by simpa using hp.1
 have hperm:d'.toList.Perm ss:=by
  have:=hp.2.2;have e1:d'.extract 0 ss.length=d':=by rw [<- hd];simp
  have e2:ss.toArray.extract 0 ss.length=ss.toArray:=by simp
  rw [e1,e2] at this;simpa using this
 refine⟨rfl,d'.toList,hperm,by simpa [hd] using hs,⟨by rw [kRow_len];simp [hd],.inr ⟨blk,cap,_,rfl,hbase,heap_sortedK _ hb,h1,h2,by simp [putCells,h3],?_⟩⟩,grownBy_sortedK _⟩;have e3:flatK kCells 2 d'=(kRow d'.toList).toArray:=by
  have:=flat_kRow d'.toList;simp only [Array.toArray_toList] at this;rw [<- this]
 rw [e3];have:=take_putV cur (kRow d'.toList) (by rw [kRow_len];simp [hd];omega);rw [kRow_len] at this;simpa [hd] using this
theorem nodup_keys {ts:List Ky}(h:ts.Nodup)(hs:SortedIn (ltOf cmpK) 0 ts.length ts.toArray):ts.Pairwise (fun x y=>cmpK x y<0):=by
 have:=CmpT.key.rises (d:=ts.toArray) (by simpa using hs) (by simpa using h);simpa using this
theorem sortedFuncK (g:Nat)(lb:Array Value)(eg:∀args w,(callFunc g args).run Tryz.prog w=.ok (.enter g args) w)(N:Nat)(f:Ky ->Option (Nat×Nat))(w:World)(hN:N<=1048576)(hseq:SeqGives Fence.wide 4 Tryz.prog g lb keyV (KeysF f) N w):
  Calls Tryz.prog 85 #[.func (.func g) #[] lb,.func (.func 87) #[] #[]] w fun e w'=>∃(v:Value) (ts:List Ky),e=.returned v/\ ts.Pairwise (fun x y=>cmpK x y<0)/\ (∀x,x∈ts↔f x≠none)/\ ts.length<=1048576/\ w'.ownsRow w.heap.size 102 2 v ts.length (kRow ts)/\ RowKit.Below w.heap.size w w':=by
 have HC:=hid (collectK g lb eg _ N (by unfold maxLen;omega) (by omega) w (SeqGives.bounded hseq));go_enter Tryz.func85,Tryz.ntmps85;go_wp2_with fail;refine HC.out.mono ?_;rintro e w1 ⟨v,ss,rfl,⟨hK,hlen⟩,hrow,hnil,hb⟩;rcases hrow.2 with ⟨rfl,hz⟩|⟨gb,cap,cur,rfl,hbase,hgb,r1,r2,r3,r4⟩
 ·have hss:ss=[]:=List.eq_nil_of_length_eq_zero hz;subst hss;have HB:=hid hb;have HK:=hid hK;have HR:=hid hrow;have hcon:=AnyF.slices_SortFunc_none Tryz.sortK none 0 (.func (.func 87) #[] #[]) w1;change Calls Tryz.prog 107 _ _ _ at hcon;have HS:=hid hcon;clear hb hK hrow HC hcon;go_wp2_with fail;refine HS.out.mono ?_;rintro e w2 ⟨rfl,rfl⟩;clear HS;go_wp2_with fail;go_ret;exact⟨_,[],rfl,List.Pairwise.nil,fun x=>HK.out.2 x,by simp,HR.out,HB.out⟩
 ·have HS:=hid (sortFuncK w.heap.size gb cap ss w1 hrow (by omega));have HB:=hid hb;have HK:=hid hK;have HL:Hid (ss.length<=1048576):=hid (by omega);have Hg:=hid hbase;clear hb hK hrow HC hnil;go_wp2_with fail;refine HS.out.mono ?_;rintro e w2 ⟨rfl,ts,hp,hs,ho,hg⟩;have HO:=hid ho;have HB2:=hid (HB.out.grown hg HB.out.size (fun k e=>by injection e with e;have:=Hg.out;omega));have HP:=hid hp;have HSo:=hid hs;clear ho hg hp hs HS;go_wp2_with fail;go_ret;refine⟨_,ts,rfl,nodup_keys (HP.out.nodup_iff.2 HK.out.1) HSo.out,fun x=>by rw [HP.out.mem_iff];exact HK.out.2 x,by rw [HP.out.length_eq];exact HL.out,?_,HB2.out⟩;rw [HP.out.length_eq];exact HO.out
theorem keysNilK (n l Bm:Nat)(J:List Ky ->World ->Prop)(W:World)(hJ:AbidesFrom W.heap.size J)(hm:W.cell? ⟨Bm,0,none⟩=some (.map none))(h0:J [] W):
  CallsIn Fence.wide n Tryz.prog 108 #[.func (.yield l) #[] #[],.pointer (some ⟨Bm,0,none⟩)] W fun e W'=>(∃v,e=.returned v)/\∃ss:List Ky,KeysF (fun _=>(none:Option (Nat×Nat))) ss/\ J ss W':=by
 have hrg:=run_range_nilMap (P:=Tryz.prog) W 42 102 45 Tryz.underlying42;have hnx:∀ty,(Instr.next (.pointer (some ⟨W.heap.size,0,none⟩)) false ty).run Tryz.prog (W.alloc (.mapIter none 0 #[] 0))=_:=fun ty=>run_next_nilMap _ ty 0 0 #[];refine callsIn_of_wp Tryz.func108 rfl trivial ?_ rfl;simp only [Tryz.ntmps108,List.size_toArray,List.length_cons,List.length_nil,Nat.reduceAdd,Nat.reduceSub,Array.replicate_succ,Array.replicate_zero,List.push_toArray,List.append_toArray,List.nil_append,List.cons_append];gi_wp2
 refine wpIn_loop_rounds 1 ?_;rw [roundsIn_succ];gi_wp2
 go_end0;exact⟨⟨_,rfl⟩,[],⟨List.nodup_nil,fun x=>by simp⟩,hJ [] W _ none h0 (World.grownBy_alloc W _ none) (fun r e=>by cases e)⟩
theorem keysFnK (mb:Option Nat)(w:World):Calls Tryz.prog 86 #[.map mb] w fun e w'=>e=.returned (.func (.func 108) #[] #[.pointer (some ⟨w.heap.size,0,none⟩)])/\ w'=w.alloc (.cells #[.map mb] 42):=by
 go_enter Tryz.func86,Tryz.ntmps86;go_wp2_with fail;go_ret;exact⟨rfl,rfl⟩
def kidsF (N:List Ky ->Option (Nat×Nat))(p:List Ky)(y:Ky):Option (Nat×Nat):=N (p++[y])
theorem sortedKeysC (B c:Nat)(N:List Ky ->Option (Nat×Nat))(M:List Ky ->Dt ->Option ByteArray)(p:List Ky)(w:World)(hT:Tre w B N M c)(hc:c<=1048576):
  Calls Tryz.prog 69 #[.agg #[.map (mF (N p)),.map (mS (N p))]] w fun e w'=>∃(v:Value) (ts:List Ky),e=.returned v/\ ts.Pairwise (fun x y=>cmpK x y<0)/\ (∀x,x∈ts↔kidsF N p x≠none)/\ ts.length<=1048576/\ w'.ownsRow w.heap.size 102 2 v ts.length (kRow ts)/\ RowKit.Below w.heap.size w w':=by
 obtain⟨u0,hu0⟩:∃u,mF (N p)=u:=⟨_,rfl⟩;obtain⟨u1,hu1⟩:∃u,mS (N p)=u:=⟨_,rfl⟩;rw [hu0,hu1];have HG:Hid (∀w1,RowKit.Below w.heap.size w w1 ->∀Bm,Bm<w1.heap.size ->w1.cell? ⟨Bm,0,none⟩=some (.map u0) ->∃n,n<=1048576/\ SeqGives Fence.wide 4 Tryz.prog 108 #[.pointer (some ⟨Bm,0,none⟩)] keyV (KeysF (kidsF N p)) n w1):=hid (fun w1 b1 Bm hBm hm=>by
  cases e:N p with
  | some x=>
   obtain⟨D,hF⟩:=(hT.below b1).kids p x e;have:u0=some x.1:=by rw [<- hu0,e];rfl
   rw [this] at hm;exact⟨Maps.size D,Nat.le_trans hF.own.size_le hc,keysGivesK Bm x.1 c _ D w1 hBm hm hF⟩
  | none=>
   have:u0=none:=by rw [<- hu0,e];rfl
   rw [this] at hm;refine⟨0,by omega,fun l J W hW hJ hY h0=> ?_⟩;have e2:kidsF N p=fun _=>none:=funext fun y=>hT.up p y e;rw [e2];exact keysNilK 4 l Bm J W hJ ((hW.cell (p:=⟨Bm,0,none⟩) hBm).trans hm) h0)
 obtain⟨W,hW⟩:∃W,w.alloc (.cells #[.map u0,.map u1] 45)=W:=⟨_,rfl⟩;have b0:RowKit.Below w.heap.size w W:=by rw [<- hW];exact(RowKit.Below.refl _ _).alloc (Nat.le_refl _) _
 have X0:Bx2 W w.heap.size (.map u0) (.map u1):=by rw [<- hW];exact Bx2.made _ _ _ _
 have k0:=X0.c0;have HB:=hid b0;clear hT b0 X0 hu0 hu1;go_enter Tryz.func69,Tryz.ntmps69;go_wp2_with fail;try rw [hW]
 clear hW;refine(keysFnK u0 W).mono ?_;rintro e w1 ⟨rfl,hw1⟩;have b1:RowKit.Below W.heap.size W w1:=by rw [hw1];exact(RowKit.Below.refl _ _).alloc (Nat.le_refl _) _
 have c1:w1.cell? ⟨W.heap.size,0,none⟩=some (.map u0):=by rw [hw1];simp
 have z1:W.heap.size<w1.heap.size:=by rw [hw1];simp
 have HB1:=hid (HB.out.trans (b1.mono HB.out.size));obtain⟨n,hn,hseq⟩:=HG.out w1 HB1.out W.heap.size z1 c1;have HS:=hid (sortedFuncK _ _ (enters_of Tryz.func108 (by kernel_rfl) rfl) n (kidsF N p) w1 hn hseq);clear hseq hw1 b1 c1 z1 k0 HG;go_wp2_with fail;refine HS.out.mono ?_;rintro e w2 ⟨v,ts,rfl,hp,hm,hl,ho,hb⟩;have HX:=hid (And.intro hp (And.intro hm hl));have HB2:=hid (HB1.out.trans (hb.mono HB1.out.size));have HO:Hid (w2.ownsRow w.heap.size 102 2 v ts.length (kRow ts)):=hid (by
  obtain⟨q1,q2⟩:=ho;refine⟨q1,?_⟩;rcases q2 with q2|⟨g,cap,cur,e,hbg,r⟩
  ·exact .inl q2
  ·exact .inr ⟨g,cap,cur,e,Nat.le_trans HB1.out.size hbg,r⟩)
 clear hp hm hl ho hb HS;go_wp2_with fail;go_ret;exact⟨v,ts,rfl,HX.out.1,HX.out.2.1,HX.out.2.2,HO.out,HB2.out⟩
end Go.Proofs.YtpfmeafmepgimaaGreat
namespace Go.Proofs.YtpfmeafmepgimaaGreat.Ds
open Go.ChangeShapes Go.WideShapes Go.ChangeAt Go.RowKit Go.Maps Go.Sort Go.Lib Go.Shelf
theorem keysItK (n l Bm b nn:Nat)(f:Dt ->Option ByteArray)(D0:DataW Value)(J:List Dt ->World ->Prop)(hn:1<=n)
  (hY:∀pre x W,J pre W ->pre.length<Maps.size D0 ->YieldAt Fence.wide (n - 1) Tryz.prog l #[dtV x] W fun e W'=>e=.returned (.bool true)/\ J (pre++[x]) W'/\ KeepsWalks W W')
  (W:World) (hJ:AbidesFrom W.heap.size J) (hm:W.cell? ⟨Bm,0,none⟩=some (.map (some b))) (hF:FM W 63 dtV mrkV b nn f D0) (h0:J [] W):
  CallsIn Fence.wide n Tryz.prog 112 #[.func (.yield l) #[] #[],.pointer (some ⟨Bm,0,none⟩)] W fun e W'=>(∃v,e=.returned v)/\∃ss,KeysF f ss/\ J ss W':=by
 have hown:=hF.own;have HF:=hid hF;have HJ:=hid hJ;have HY:=hid hY;clear hF hJ hY;refine callsIn_of_wp Tryz.func112 rfl trivial ?_ rfl;simp only [Tryz.ntmps112,List.size_toArray,List.length_cons,List.length_nil,Nat.reduceAdd,Nat.reduceSub,Array.replicate_succ,Array.replicate_zero,List.push_toArray,List.append_toArray,List.nil_append,List.cons_append];gi_wp2_with (first
  | (gi_at_range;refine wpListIn_range_own _ rfl _ 43 rfl 63 79 dotKeyed Tryz.underlying43 _ b nn _ rfl hown ?_;intro w0 hrg0 hg0 hs0)
  | gi_in)
 try go_frame
 gi_loopw [3] (fun _ wr=>∃(left:Lit ->Bool) (cnt:Nat) (ss:List Dt),wr.ranges Tryz.prog 63 allR b W.heap.size nn D0 left cnt/\ ss.length+cnt<=Maps.size D0/\ CollF 63 dtV f left ss/\ J ss wr)
  (fun _ wr=>wr.rangeLeft b W.heap.size)
 case atStart=>exact⟨_,_,[],hrg0,by simp,CollF.start HF.out,HJ.out [] W w0 none h0 hg0 (fun r e=>by cases e)⟩
 case round=>
  obtain⟨left,cnt,ss,hrg,hcs,hC,hJs⟩:=hrel;have HC:=hid hC;have HCS:=hid hcs;clear hC hcs;gi_wp2_with (first
   | (gi_at_next;refine wpListIn_next_ranges _ rfl _ rfl 63 dotKeyed allR dtV id (fun key kl hk=>keyOf_dot hk) (fun v _ _=>⟨v,rfl⟩) b W.heap.size nn _ _ _ rfl hrg ?_ ?_)
   | gi_in)
  ·intro hc0 hl0;gi_wp2
   go_end0;exact⟨⟨_,rfl⟩,ss,HC.out.done HF.out hl0,hJs⟩
  ·intro xs xk c kl yd yp w2 cnt2 hkey hlk hv hat hrg2 hlt hg2 hs2 hen;have hJ2:J ss w2:=HJ.out ss wr w2 (some W.heap.size) hJs hg2 (fun r e=>by cases e;exact⟨Nat.le_refl _,hrg.iter_walk⟩);obtain⟨w3,hw3⟩:∃w3,w2.alloc (.cells #[.int .i64 xs,.int .i64 xk] 63)=w3:=⟨_,rfl⟩;have hJ3:J ss w3:=by rw [<- hw3];exact HJ.out ss w2 _ none hJ2 (World.grownBy_alloc w2 _ none) (fun r e=>by cases e)
   obtain⟨fn,tmps,assign,body,hy,hR⟩:=HY.out ss (xs,xk) w3 hJ3 (by have:=HCS.out;omega);have K3:Bx2 w3 w2.heap.size (.int .i64 xs) (.int .i64 xk):=by rw [<- hw3];exact Bx2.made _ _ _ _
   have hrg3:=hrg2.alloc (.cells #[.int .i64 xs,.int .i64 xk] 63);rw [hw3] at hrg3;have q0:=K3.c0;have q1:=K3.c1;clear hs2 K3;dsimp only [dtV,dotV] at hen hy hR ⊢;gi_wp2
   try rw [hw3]
   refine hR.mono ?_;rintro e W3 ⟨rfl,hJ4,hk3⟩;gi_wp2
   have hrg4:=hrg3.of_walks hk3;go_roundw;case rel=>exact⟨_,cnt2,ss++[(xs,xk)],hrg4,by have:=HCS.out;simp;omega,HC.out.step HF.out dotKeyed (fun _ _=>dtV_inj) hkey hlk hat,hJ4⟩
   case measure=>rw [hrg4.left_eq,hrg.left_eq];exact hlt
def kCells (x:Dt):List Value:=[.int .i64 x.1,.int .i64 x.2]
def kRow (ss:List Dt):List Value:=ss.flatMap kCells
theorem kRow_snoc (ss:List Dt)(x:Dt):kRow (ss++[x])=kRow ss++kCells x:=by simp [kRow]
theorem infoDt:(Tryz.prog.info? 63).map (fun i=>(i.zero,i.size,i.bytes))=some (some (.agg #[.int .i64 0,.int .i64 0]),2,16):=by kernel_rfl
def apA:Code:=(Code.region 2 #[{dst:=some 5,op:=Op.alloc 63,type:=0,pos:= "iter.go:51",after:=#[],guard:=none},{dst:=none,op:=Op.store 63 (Operand.tmp 5) (Operand.tmp 7),type:=0,pos:= "iter.go:51",after:=#[{on:=0,ground:=Ground.data},{on:=0,ground:=Ground.phase}],guard:=none}] false)
def apB:Code:=(Code.block 1 (Code.region 3 #[{dst:=some 8,op:=Op.load 113 (Operand.tmp 2),type:=113,pos:= "iter.go:52",after:=#[],guard:=none},{dst:=some 9,op:=Op.load 63 (Operand.tmp 5),type:=63,pos:= "iter.go:52",after:=#[],guard:=none},{dst:=some 10,op:=Op.buildSlice 113 1 #[(0,Operand.tmp 9)],type:=113,pos:= "iter.go:52",after:=#[{on:=1,ground:=Ground.data}],guard:=none},{dst:=some 11,op:=Op.call {callee:=Callee.builtin Builtin.append,args:=#[Operand.tmp 8,Operand.tmp 10],argTypes:=#[113,113]},type:=113,pos:= "iter.go:52",after:=#[{on:=0,ground:=Ground.data},{on:=2,ground:=Ground.data}],guard:=none},{dst:=none,op:=Op.store 113 (Operand.tmp 2) (Operand.tmp 11),type:=0,pos:= "iter.go:52",after:=#[{on:=3,ground:=Ground.data},{on:=3,ground:=Ground.chain},{on:=0,ground:=Ground.phase},{on:=1,ground:=Ground.phase},{on:=2,ground:=Ground.phase},{on:=3,ground:=Ground.phase}],guard:=none}] false))
def apRec (fn:FuncId)(sv:Value)(Bs D:Nat)(st:LoopState):Loop:=
 {state:=st,pending:=none,fn,tmps:=#[.slice none 0 0,sv,.pointer (some ⟨Bs,0,none⟩),undef,.slice none 0 0,undef,sv,undef,undef,undef,undef,undef,undef],params:=#[7],assign:=apA,body:=apB,defers:=D}
structure ApAt (w0:World)(fn:FuncId)(sv:Value)(Bs l D:Nat)(ss:List Dt)(W:World):Prop where
 box:∃v,W.heap[Bs]? =some (.cells #[v] 113 (0,0))/\ W.ownsRow w0.heap.size 63 2 v ss.length (kRow ss)/\ (v=.slice none 0 0↔ss=[])
 L:W.heap[l]? =some (.loop (apRec fn sv Bs D .ready))
 K:W.heap[D]? =some (.deferred (some []))
 below:RowKit.Below w0.heap.size w0 W
theorem ap_abides (w0:World)(fn:FuncId)(sv:Value)(Bs l D B:Nat)(hB:w0.heap.size<=B):AbidesFrom B (ApAt w0 fn sv Bs l D):=fun s W W' row h hg hrow=>by
 have hrow':∀r,row=some r ->∃o:Obj,W.heap[r]? =some o/\ o.isWalk=true:=fun r e=>(hrow r e).2;obtain⟨v,hv,hr,hn⟩:=h.box;exact⟨⟨v,(grownBy_keeps hg hrow' hv rfl).trans hv,ownsRow_abides_a hr hg hrow',hn⟩,(grownBy_keeps hg hrow' h.L rfl).trans h.L,(grownBy_keeps hg hrow' h.K rfl).trans h.K,h.below.grown hg h.below.size (fun k e=>Nat.le_trans hB (hrow k e).1)⟩
theorem apYieldK (m:Nat)(w0:World)(fn:FuncId)(sv:Value)(Bs l D:Nat)(hBl:Bs≠l)(hDl:D≠l)(hDB:D≠Bs)(h0B:w0.heap.size<=Bs)(h0l:w0.heap.size<=l)
    (N:Nat) (hN:N<=maxLen) (hNb:N*16<=140737488355328) (ss:List Dt) (x:Dt) (W:World) (h:ApAt w0 fn sv Bs l D ss W) (hlen:ss.length<N):
    YieldAt Fence.wide m Tryz.prog l #[dtV x] W fun e W'=>e=.returned (.bool true)/\ ApAt w0 fn sv Bs l D (ss++[x]) W'/\ KeepsWalks W W':=by
  have hne:113≠63:=by decide
  obtain⟨i0,hi,hz0,hz1,hz2⟩:=info_parts infoDt;refine⟨fn,#[.slice none 0 0,sv,.pointer (some ⟨Bs,0,none⟩),undef,.slice none 0 0,undef,sv,dtV x,undef,undef,undef,undef,undef],apA,apB,by simpa [apRec] using run_yield (P:=Tryz.prog) (args:=#[dtV x]) h.L rfl,roundIn_of_wpIn trivial ?_⟩;obtain⟨xs,xk⟩:=x;obtain⟨W1,hW1⟩:∃W1,W.alloc (.cells #[.int .i64 xs,.int .i64 xk] 63)=W1:=⟨_,rfl⟩;have h1:ApAt w0 fn sv Bs l D ss W1:=by rw [<- hW1];exact ap_abides w0 fn sv Bs l D w0.heap.size (Nat.le_refl _) ss W _ none h (World.grownBy_alloc W _ none) (fun r e=>by cases e)
  have hk1:KeepsWalks W W1:=by rw [<- hW1];exact KeepsWalks.alloc _ _
  have X1:Bx2 W1 W.heap.size (.int .i64 xs) (.int .i64 xk):=by rw [<- hW1];exact Bx2.made _ _ _ _
  have hlW:l<W.heap.size:=(Array.getElem?_eq_some_iff.1 h.L).1;obtain⟨v,hv,hrow,_⟩:=h1.box;have hl:l<W1.heap.size:=(Array.getElem?_eq_some_iff.1 h1.L).1;have hbr:=run_beginRound (P:=Tryz.prog) h1.L rfl;obtain⟨W2,hW2⟩:∃W2,W1.putObj l (.loop {apRec fn sv Bs D .ready with state:=.busy})=W2:=⟨_,rfl⟩;rw [hW2] at hbr;have hg2:W1.grownBy W2 (some l):=by rw [<- hW2];exact grownBy_putObj_a _ _ _
  have hk2:KeepsWalks W W2:=hk1.trans (by rw [<- hW2];exact KeepsWalks.putObj _ h1.L rfl);have hv2:W2.heap[Bs]? =some (.cells #[v] 113 (0,0)):=by rw [<- hW2];exact(World.putObj_heap_other hBl).trans hv
  have hK2:W2.heap[D]? =some (.deferred (some [])):=by rw [<- hW2];exact(World.putObj_heap_other hDl).trans h1.K
  have hL2:W2.heap[l]? =some (.loop {apRec fn sv Bs D .ready with state:=.busy}):=by rw [<- hW2];exact World.putObj_heap_same hl
  have hrow2:W2.ownsRow w0.heap.size 63 2 v ss.length (kRow ss):=hrow.kept hg2 (ownsRow_ne_a hrow h1.L (fun cur e=>by cases e));have hb2:RowKit.Below w0.heap.size w0 W2:=h1.below.grown hg2 h1.below.size (fun k e=>by cases e;exact h0l);have e2:W2.heap[W.heap.size]? =W1.heap[W.heap.size]? :=hg2.block _ X1.lt (fun e=>by injection e with e;omega);have q0:W2.cell? ⟨W.heap.size,0,none⟩=some (.int .i64 xs):=(World.cell?_of_block (a:=⟨W.heap.size,0,none⟩) e2).trans X1.c0;have q1:W2.cell? ⟨W.heap.size,1,none⟩=some (.int .i64 xk):=(World.cell?_of_block (a:=⟨W.heap.size,1,none⟩) e2).trans X1.c1;obtain⟨hc2,hf2⟩:=cell_of_box_a hv2;have hBlt:Bs<W2.heap.size:=(Array.getElem?_eq_some_iff.1 hv2).1;have hl2:l<W2.heap.size:=(Array.getElem?_eq_some_iff.1 hL2).1;have hDlt:D<W2.heap.size:=(Array.getElem?_eq_some_iff.1 hK2).1;have ne_of:∀{j:Nat} {o:Obj},W2.heap[j]? =some o ->(∀cur,o≠.cells cur 63 (0,0)) ->some j≠v.ownBlock:=fun hj hno=>by
    rcases ownsRow_ne_a hrow2 hj hno with e|e
    · rw [e];simp
    · exact fun e'=>e e'.symm
  have HR2:=hid hrow2;have HZ:=hid hb2.size;clear hW2 hrow hrow2 X1 e2 hg2 hk1;unfold apA;dsimp only [dtV,dotV];gi_wp2_with gi_round_op_a
  unfold apB;gi_wp2_with (first
    | (gi_at_builtin;refine wpListIn_append_own _ rfl _ _ 113 rfl w0.heap.size 63 i0 (.agg #[.int .i64 0,.int .i64 0]) 2 16 Tryz.underlying113 hi hz0 hz1 hz2 rfl (by decide) _ _ _ rfl (HR2.out.alloc _) ⟨W2.heap.size,0,none⟩ 1 1 [.int .i64 xs,.int .i64 xk] rfl rfl (cell_two_new _ _ _ _) (by simp [Value.oneCell']) (by omega) (by omega) (by have:=HZ.out;simp;omega) ?_;intro v' w3 hown' hg3 hnil3
       have hv3:w3.heap[Bs]? =some (.cells #[v] 113 (0,0)):=(hg3.block Bs (by simp;omega) (ne_of hv2 (fun cur e=>hne (Obj.cells.inj e).2.1))).trans ((Below.heap_alloc _ _ Bs hBlt).trans hv2)
       obtain⟨hc3,hf3⟩:=cell_of_box_a hv3
       obtain⟨g',cap',cur',rfl,hbase',hgb',hr1,hr2,hr3,hr4⟩:∃g' cap' cur',v'=.slice (some ⟨g',0,none⟩) (ss.length+1) cap'/\ w0.heap.size<=g'/\ w3.heap[g']? =some (.cells cur' 63 (0,0))/\ ss.length+1<=cap'/\ cap'<=maxLen/\ cur'.size=cap'*2/\ cur'.toList.take ((ss.length+1)*2)=kRow ss++[.int .i64 xs,.int .i64 xk]:=by
         rcases hown'.2 with ⟨_,h0⟩|h'
         · exact absurd h0 (by omega)
         · exact h'
       have HOW:=hid hown'
       clear hown'
       try go_frame)
    | gi_round_op_a)
  have hg3':(W2.alloc (.cells #[.int .i64 xs,.int .i64 xk] 63)).grownBy w3 v.ownBlock:=hg3;have hL3:w3.heap[l]? =some (.loop {apRec fn sv Bs D .ready with state:=.busy}):=(hg3'.block l (by simp;omega) (ne_of hL2 (fun cur e=>by cases e))).trans ((Below.heap_alloc _ _ l hl2).trans hL2);have hK3:w3.heap[D]? =some (.deferred (some [])):=(hg3'.block D (by simp;omega) (ne_of hK2 (fun cur e=>by cases e))).trans ((Below.heap_alloc _ _ D hDlt).trans hK2);obtain⟨w4,hw4⟩:∃w4,w3.setCell ⟨Bs,0,none⟩ (.slice (some ⟨g',0,none⟩) (ss.length+1) cap')=w4:=⟨_,rfl⟩;rw [hw4];have hg4:w3.grownBy w4 (some Bs):=by rw [<- hw4];exact grownBy_setCell0_a _ _ _
  have hv4:w4.heap[Bs]? =some (.cells #[.slice (some ⟨g',0,none⟩) (ss.length+1) cap'] 113 (0,0)):=by rw [<- hw4];exact heap_setCell_box_a _ hv3
  have hL4:w4.heap[l]? =some (.loop {apRec fn sv Bs D .ready with state:=.busy}):=(hg4.block l (Array.getElem?_eq_some_iff.1 hL3).1 (fun e=>hBl (by cases e;rfl))).trans hL3;have hK4:w4.heap[D]? =some (.deferred (some [])):=(hg4.block D (Array.getElem?_eq_some_iff.1 hK3).1 (fun e=>hDB (by cases e;rfl))).trans hK3;have hrow4:=HOW.out.kept hg4 (ownsRow_ne_a HOW.out hv3 (fun cur e=>hne (Obj.cells.inj e).2.1));have hl4:l<w4.heap.size:=(Array.getElem?_eq_some_iff.1 hL4).1;have hb3:RowKit.Below w0.heap.size w0 w3:=(hb2.alloc hb2.size _).grown hg3' (by have:=hb2.size;simp;omega) (fun k e=>(HR2.out.lt k e).1);have hb4:RowKit.Below w0.heap.size w0 w4:=hb3.grown hg4 hb3.size (fun k e=>by cases e;exact h0B);have hk4:KeepsWalks W w4:=((hk2.trans (KeepsWalks.alloc _ _)).trans (KeepsWalks.of_grownBy hg3' (ownsRow_not_walk_a (HR2.out.alloc _)))).trans (by rw [<- hw4];exact KeepsWalks.setCell _ _ _);clear hw4;refine⟨_,_,run_endRound none hL4,rfl,⟨⟨_,(World.putObj_heap_other hBl).trans hv4,?_,by simp⟩,World.putObj_heap_same hl4,(World.putObj_heap_other hDl).trans hK4,hb4.grown (grownBy_putObj_a _ _ _) hb4.size (fun k e=>by cases e;exact h0l)⟩,hk4.trans (KeepsWalks.putObj _ hL4 rfl)⟩;have:=hrow4.kept (grownBy_putObj_a w4 l (.loop {{apRec fn sv Bs D .ready with state:=.busy} with state:=if (none:Option Code).isNone then .ready else .done,pending:=none})) (ownsRow_ne_a hrow4 hL4 (fun cur e=>by cases e));rw [kRow_snoc];simpa [kCells] using this
theorem appendSeqK (n:Nat)(hn:2<=n)(g:Nat)(lb:Array Value)(eg:∀args w,(callFunc g args).run Tryz.prog w=.ok (.enter g args) w)
  (S:List Dt ->Prop) (N:Nat) (hN:N<=maxLen) (hNb:N*16<=140737488355328) (w:World) (hseq:SeqGives Fence.wide (n - 1) Tryz.prog g lb dtV S N w):
  CallsIn Fence.wide n Tryz.prog 129 #[.slice none 0 0,.func (.func g) #[] lb] w fun e w'=>∃(v:Value) (ss:List Dt),e=.returned v/\ S ss/\ w'.ownsRow w.heap.size 63 2 v ss.length (kRow ss)/\ (v=.slice none 0 0↔ss=[])/\ RowKit.Below w.heap.size w w':=by
 have hne:113≠63:=by decide
 refine callsIn_of_wp_marks Tryz.func129 rfl trivial ?_ rfl;simp only [Tryz.ntmps129,List.size_toArray,List.length_cons,List.length_nil,Nat.reduceAdd,Nat.reduceSub,Array.replicate_succ,Array.replicate_zero,List.push_toArray,List.append_toArray,List.nil_append,List.cons_append];gi_wp2
 refine wpIn_rangeFunc ?_;intro fn hfn;obtain⟨W0,hW0⟩:∃W0,w.alloc (.cells #[.slice none 0 0] 113)=W0:=⟨_,rfl⟩;have hs0:W0.heap.size=w.heap.size+1:=by rw [<- hW0];simp
 have hv0:W0.heap[w.heap.size]? =some (.cells #[.slice none 0 0] 113 (0,0)):=by rw [<- hW0];exact World.alloc_heap_new w _
 have hb0:RowKit.Below w.heap.size w W0:=by rw [<- hW0];exact(RowKit.Below.refl _ w).alloc (Nat.le_refl _) _
 rw [hW0];obtain⟨W1,hW1⟩:∃W1,(W0.alloc (.deferred (some []))).alloc (.loop (apRec fn (.func (.func g) #[] lb) w.heap.size W0.heap.size .ready))=W1:=⟨_,rfl⟩;have hold:∀k,k<W0.heap.size ->W1.heap[k]? =W0.heap[k]? :=fun k hk=>by
  rw [<- hW1];exact(Below.heap_alloc _ _ k (by simp;omega)).trans (Below.heap_alloc _ _ k hk)
 have hb1:RowKit.Below w.heap.size w W1:=by rw [<- hW1];exact(hb0.alloc hb0.size _).alloc (by have:=hb0.size;simp;omega) _
 have hM:ApAt w fn (.func (.func g) #[] lb) w.heap.size (W0.heap.size+1) W0.heap.size [] W1:=
  ⟨⟨_,(hold w.heap.size (by omega)).trans hv0,⟨rfl,.inl ⟨rfl,rfl⟩⟩,by simp⟩,
   by rw [<- hW1];have:=World.alloc_heap_new (W0.alloc (.deferred (some []))) (.loop (apRec fn (.func (.func g) #[] lb) w.heap.size W0.heap.size .ready));rwa [World.size_alloc] at this,
   by rw [<- hW1];exact(Below.heap_alloc _ _ _ (by simp)).trans (World.alloc_heap_new W0 _),hb1⟩
 refine⟨W0.heap.size+1,[{target:=.collected W0.heap.size,args:=#[]}],W1,{target:=.fn (.func g) lb,args:=#[.func (.yield (W0.heap.size+1)) #[] #[]]},W1,g,
  #[.func (.yield (W0.heap.size+1)) #[] #[]]++lb,W1,?_,?_,?_,?_,fun _=>by omega,?_⟩
 ·rw [<- hW1];exact run_enterLoop_outer _ _ _ _ _
 ·simp [resolve,go_sem]
 ·intro f' hf';trivial
 ·simp [invoke,go_sem,eg]
 ·refine(hseq (W0.heap.size+1) (ApAt w fn (.func (.func g) #[] lb) w.heap.size (W0.heap.size+1) W0.heap.size) W1 hb1 (ap_abides _ _ _ _ _ _ _ hb1.size)
   (fun pre x W hJ hl=>apYieldK (n - 1 - 1) w fn _ w.heap.size (W0.heap.size+1) W0.heap.size (by omega) (by omega) (by omega) (Nat.le_refl _) (by omega) N hN hNb pre x W hJ hl) hM).mono ?_
  rintro e W2 ⟨⟨v0,rfl⟩,ss,hS,h2⟩;obtain⟨v,hv,hrow,hnil⟩:=h2.box;have hend:=run_endLoop (P:=Tryz.prog) h2.L (by simp [apRec]);obtain⟨W3,hW3⟩:∃W3,W2.putObj (W0.heap.size+1) (.loop {apRec fn (.func (.func g) #[] lb) w.heap.size W0.heap.size .ready with state:=.exhausted})=W3:=⟨_,rfl⟩;rw [hW3] at hend;have hg3:W2.grownBy W3 (some (W0.heap.size+1)):=by rw [<- hW3];exact grownBy_putObj_a _ _ _
  have hv3:W3.heap[w.heap.size]? =some (.cells #[v] 113 (0,0)):=by rw [<- hW3];exact(World.putObj_heap_other (by omega)).trans hv
  have hK3:W3.heap[W0.heap.size]? =some (.deferred (some [])):=by rw [<- hW3];exact(World.putObj_heap_other (by omega)).trans h2.K
  have hrow3:=hrow.kept hg3 (ownsRow_ne_a hrow h2.L (fun cur e=>by cases e));have hb3:RowKit.Below w.heap.size w W3:=h2.below.grown hg3 h2.below.size (fun k e=>by cases e;omega);obtain⟨hc3,hf3⟩:=cell_of_box_a hv3;have HR:=hid hrow3;clear hW3 hrow hrow3;refine⟨none,W3,hend,?_⟩;gi_wp2
  rw [<- hs0];refine⟨by simp,.inl ⟨_,_,rfl,run_takeDeferred hK3,?_⟩⟩;exact⟨_,results_tmp rfl _ _ _,v,ss,rfl,hS,HR.out.kept (grownBy_putObj_a _ _ _) (ownsRow_ne_a HR.out hK3 (fun cur e=>by cases e)),hnil,hb3.grown (grownBy_putObj_a _ _ _) hb3.size (fun k e=>by cases e;omega)⟩
theorem collectK (g:Nat)(lb:Array Value)(eg:∀args w,(callFunc g args).run Tryz.prog w=.ok (.enter g args) w)
  (S:List Dt ->Prop) (N:Nat) (hN:N<=maxLen) (hNb:N*16<=140737488355328) (w:World) (hseq:SeqGives Fence.wide 4 Tryz.prog g lb dtV S N w):
  Calls Tryz.prog 110 #[.func (.func g) #[] lb] w fun e w'=>∃(v:Value) (ss:List Dt),e=.returned v/\ S ss/\ w'.ownsRow w.heap.size 63 2 v ss.length (kRow ss)/\ (v=.slice none 0 0↔ss=[])/\ RowKit.Below w.heap.size w w':=by
 have HA:=hid ((callsIn_wide (n:=5)).1 (appendSeqK 5 (by omega) g lb eg S N hN hNb w hseq));go_enter Tryz.func110,Tryz.ntmps110;go_wp2_with fail;refine HA.out.mono ?_;rintro e w' ⟨v,ss,rfl,hS,hrow,hnil,hb⟩;have HX:=hid (And.intro hS (And.intro hrow (And.intro hnil hb)));clear hS hrow hnil hb HA;go_wp2_with fail;go_ret;exact⟨v,ss,rfl,HX.out.1,HX.out.2.1,HX.out.2.2.1,HX.out.2.2.2⟩
theorem keysGivesK (Bm b nn:Nat)(f:Dt ->Option ByteArray)(D0:DataW Value)(w:World)(hBm:Bm<w.heap.size)(hm:w.cell? ⟨Bm,0,none⟩=some (.map (some b)))(hF:FM w 63 dtV mrkV b nn f D0):
  SeqGives Fence.wide 4 Tryz.prog 112 #[.pointer (some ⟨Bm,0,none⟩)] dtV (KeysF f) (Maps.size D0) w:=fun l J W hW hJ hY h0=>by
 have hF':FM W 63 dtV mrkV b nn f D0:=⟨own_same hF.own (hW.block b hF.own.lt),hF.at',hF.cov,hF.ok⟩;exact keysItK 4 l Bm b nn f D0 J (by omega) hY W hJ ((hW.cell (p:=⟨Bm,0,none⟩) hBm).trans hm) hF' h0
theorem compareKeysW (x y:Dt)(w:World):Calls Tryz.prog 90 #[.agg #[.int .i64 x.1,.int .i64 x.2],.agg #[.int .i64 y.1,.int .i64 y.2]] w fun e w'=>e=.returned (.int .i64 (cmpDt x y))/\ Bw w w':=by
 obtain⟨s,k⟩:=x;obtain⟨s',k'⟩:=y;dsimp only;obtain⟨W,hW⟩:∃W,(w.alloc (.cells #[.int .i64 s,.int .i64 k] 63)).alloc (.cells #[.int .i64 s',.int .i64 k'] 63)=W:=⟨_,rfl⟩;have b0:Bw w W:=by rw [<- hW];exact⟨below2 _ _ _,Nat.le_refl _⟩
 have X0:Bx2 W w.heap.size (.int .i64 s) (.int .i64 k):=by rw [<- hW];exact(Bx2.made w _ _ _).allocs _
 have X1:Bx2 W (w.heap.size+1) (.int .i64 s') (.int .i64 k'):=by rw [<- hW];simpa using Bx2.made (w.alloc (.cells #[.int .i64 s,.int .i64 k] 63)) (.int .i64 s') (.int .i64 k') 63
 have HB0:=hid b0;have HX0:=hid X0;have HX1:=hid X1;clear b0 X0 X1;go_enter Tryz.func90,Tryz.ntmps90;go_wp2_with fail;try rw [hW]
 clear hW;have HCS:Hid (∀w',Bw W w' ->(Bw W w'/\ w'.cell? ⟨w.heap.size,0,none⟩=some (.int .i64 s)/\ w'.cell? ⟨w.heap.size,1,none⟩=some (.int .i64 k)/\ w'.cell? ⟨w.heap.size+1,0,none⟩=some (.int .i64 s')/\ w'.cell? ⟨w.heap.size+1,1,none⟩=some (.int .i64 k'))):=hid (fun w' hB=>by
  have x0:=HX0.out.below hB.1 HX0.out.lt;have x1:=HX1.out.below hB.1 HX1.out.lt;exact⟨hB,x0.c0,x0.c1,x1.c0,x1.c1⟩)
 refine wp_region_held_drew (S:=fun w'=>Bw W w'/\ w'.cell? ⟨w.heap.size,0,none⟩=some (.int .i64 s)/\ w'.cell? ⟨w.heap.size,1,none⟩=some (.int .i64 k)/\ w'.cell? ⟨w.heap.size+1,0,none⟩=some (.int .i64 s')/\ w'.cell? ⟨w.heap.size+1,1,none⟩=some (.int .i64 k')) (by kernel_rfl) (HCS.out _ ⟨(RowKit.Below.refl _ _).drew,Nat.le_succ _⟩) (fun hHeld=> ?_);refine tZ 0 5 ?_;refine tZ 1 6 ?_;refine tZ 2 7 ?_;refine tZ 3 8 ?_;refine tZ 5 10 ?_;refine tZ 6 11 ?_;refine tZ 7 12 ?_;refine tZ 8 13 ?_;refine cZ 4 ?_;intro K hK;go_simp;refine(compare s s' _).mono ?_;rintro e w1 ⟨rfl,rfl⟩;refine hK.out _ _ hHeld (fun hHeld=> ?_);clear hK K;try simp only [Act.put,sZa,sZb,sZc]
 refine cZ 9 ?_;intro K hK;go_simp;refine(compare k k' _).mono ?_;rintro e w2 ⟨rfl,rfl⟩;refine hK.out _ _ hHeld (fun hHeld=> ?_);clear hK K;try simp only [Act.put,sZa,sZb,sZc]
 refine cZ 10 ?_;intro K hK;go_simp;have hB:Bw W (W.drew.alloc (.cells #[.int .i64 (cmpI s s'),.int .i64 (cmpI k k')] 3)):=⟨hHeld.1.1.alloc hHeld.1.1.size _,hHeld.1.2⟩;refine hK.out _ _ (HCS.out _ hB) (fun hHeld=> ?_);clear hK K;try simp only [Act.put,sZa,sZb,sZc]
 refine cZ 11 ?_;intro K hK;go_simp;refine(cmpOr _ 2 2 (fun i=>if i=0 then cmpI s s' else cmpI k k') _ (by omega) (fun i hi=> ?_)).mono ?_
 ·match i,hi with
  | 0,_=>simp
  | 1,_=>simp
 rintro e w3 ⟨rfl,rfl⟩;refine hK.out _ _ hHeld (fun hHeld=> ?_);clear hK K;try simp only [Act.put,sZa,sZb,sZc]
 refine tZ 12 4 ?_;refine wpAnyH_done (by kernel_rfl) ?_ _;have HB:Hid (Bw w (W.drew.alloc (.cells #[.int .i64 (cmpI s s'),.int .i64 (cmpI k k')] 3))):=hid ⟨HB0.out.1.trans (hHeld.1.1.mono HB0.out.1.size),Nat.le_trans HB0.out.2 hHeld.1.2⟩;clear hHeld hB;go_wp2_with fail;go_ret;exact⟨ret_i nz2,HB.out⟩
theorem kCells_len (x:Dt):(kCells x).length=2:=rfl
theorem kRow_len (ss:List Dt):(kRow ss).length=ss.length*2:=by
 induction ss with
 | nil=>rfl
 | cons x r ih=>simp only [kRow,List.flatMap_cons,List.length_append,List.length_cons] at*;rw [ih,kCells_len];omega
theorem kRow_get:∀(ss:List Dt) (t:Nat),t<ss.length*2 ->(kRow ss)[t]? =some ((kCells ss.toArray[t/2]!)[t%2]!)
 | [],t,h=>by simp at h
 | x::r,t,h=>by
  rcases Nat.lt_or_ge t 2 with h2|h2
  ·have:t=0 \/t=1:=by omega
   rcases this with rfl|rfl<;>simp [kRow,kCells]
  ·obtain⟨u,rfl⟩:∃u,t=u+2:=⟨t - 2,by omega⟩;have ih:=kRow_get r u (by simp at h;omega);have e1:(u+2)/2=u/2+1:=by omega
   have e2:(u+2)%2=u%2:=by omega
   rw [e1,e2];have hu:u/2<r.length:=by simp at h;omega
   have e3:(x::r).toArray[u/2+1]! =r.toArray[u/2]! :=by
    rw [getElem!_pos _ _ (by simp;omega),getElem!_pos _ _ (by simpa using hu)];simp
   rw [e3,<- ih];simp [kRow,kCells]
theorem flat_kRow (ss:List Dt):(flatK kCells 2 ss.toArray).toList=kRow ss:=by
 apply List.ext_getElem?;intro t;by_cases h:t<ss.length*2
 ·rw [kRow_get ss t h];have h':t<(flatK kCells 2 ss.toArray).size:=by simpa using h
  have:=get_flatK kCells 2 ss.toArray t (by simpa using h);rw [getElem!_pos _ t h'] at this;rw [Array.getElem?_toList,Array.getElem?_eq_getElem h',this]
 ·rw [List.getElem?_eq_none (by simp;omega),List.getElem?_eq_none (by rw [kRow_len];omega)]
theorem heap_sortedK {w:World}{g n:Nat}{os:Array Obj}{cur:Array Value}{e:TypeId}{fr:Nat×Nat}(d:Array Value)(hb:w.heap[g]? =some (.cells cur e fr)):
  (grow (putRow id (Sort.ahead w n) g 0 d) os).heap[g]? =some (.cells (putCells id 0 d cur) e fr):=by
 have hg:g<w.heap.size:=(Array.getElem?_eq_some_iff.1 hb).1;rw [heap_grow_old _ _ (by simpa [putRow,mapBlock,Sort.ahead] using hg)];simp [putRow,mapBlock,Sort.ahead,Array.getElem?_modify,hb,onCells]
theorem grownBy_sortedK {w:World}{g n:Nat}{os:Array Obj}(d:Array Value):w.grownBy (grow (putRow id (Sort.ahead w n) g 0 d) os) (some g):=by
 refine⟨rfl,rfl,rfl,by simp [grow,putRow,mapBlock,Sort.ahead],fun k hk hne=> ?_⟩;rw [heap_grow_old _ _ (by simpa [putRow,mapBlock,Sort.ahead] using hk)];have:g≠k:=fun e=>hne (by rw [e]);simp [putRow,mapBlock,Sort.ahead,Array.getElem?_modify,this]
theorem take_putV (cur:Array Value)(ts:List Value)(h:ts.length<=cur.size):(putCells id 0 ts.toArray cur).toList.take ts.length=ts:=by
 apply List.ext_getElem?;intro j;by_cases hj:j<ts.length
 ·rw [List.getElem?_take_of_lt hj,Array.getElem?_toList];simp [putCells,hj,show j<cur.size by omega]
 ·rw [List.getElem?_take_eq_none (by omega),List.getElem?_eq_none (by omega)]
theorem eg_cmpK:∀args w,(callFunc 90 args).run Tryz.prog w=.ok (.enter 90 args) w:=enters_of Tryz.func90 (by kernel_rfl) rfl
theorem cmpLaysK (blk off size:Nat)(w:World):CmpLays Tryz.prog 90 #[] kCells 2 cmpDt blk off size w:=fun m os dk _ x y=>
 (compareKeysW x y _).mono fun e w' ⟨he,hb⟩=>⟨he,hb.grown⟩
theorem sortFuncK (B blk cap:Nat)(ss:List Dt)(w:World)(ho:w.ownsRow B 63 2 (.slice (some ⟨blk,0,none⟩) ss.length cap) ss.length (kRow ss))(hsz:ss.length<=1048576):
  Calls Tryz.prog 111 #[.slice (some ⟨blk,0,none⟩) ss.length cap,.func (.func 90) #[] #[]] w fun e w'=>e=.returned (.tuple #[])/\∃ts:List Dt,ts.Perm ss/\ SortedIn (ltOf cmpDt) 0 ts.length ts.toArray/\ w'.ownsRow B 63 2 (.slice (some ⟨blk,0,none⟩) ss.length cap) ss.length (kRow ts)/\ w.grownBy w' (some blk):=by
 rcases ho.2 with ⟨h0,_⟩|⟨g',cap',cur,hv,hbase,hb,h1,h2,h3,h4⟩
 ·cases h0
 cases hv;have hblk:blk<w.heap.size:=(Array.getElem?_eq_some_iff.1 hb).1;have hH:HoldsK kCells 2 w blk 0 ss.toArray:=by
  intro t ht;have ht':t<ss.length*2:=by simpa using ht
  refine⟨?_,by simp [World.frozen?,hb]⟩;have e1:(cur.toList.take (ss.length*2))[t]? =(kRow ss)[t]? :=by rw [h4]
  rw [List.getElem?_take_of_lt ht',kRow_get ss t ht'] at e1;have e2:=get_flatK kCells 2 ss.toArray t (by simpa using ht');rw [e2];simp only [World.cell?,hb,Nat.zero_add,Option.isSome_none,Bool.false_eq_true,if_false];rw [<- Array.getElem?_toList,e1];rfl
 have hcon:=AnyQ.slices_SortFunc Tryz.sortD 2 Tryz.isAgg63 Tryz.sizeOf63 kCells kCells_len (fun x v hv=>by simp [kCells] at hv;rcases hv with rfl|rfl<;>rfl) cmpDt CmpT.dot.swo 90 #[] blk 0 cap ss.toArray w eg_cmpK (cmpLaysK blk 0 _ w) hH hblk (by simp;omega);change Calls Tryz.prog 111 _ _ _ at hcon;simp only [List.size_toArray] at hcon;refine hcon.mono ?_;rintro e w' ⟨rfl,d',n,os,hp,hs,rfl⟩;have hd:d'.size=ss.length:=by simpa using hp.1
 have hperm:d'.toList.Perm ss:=by
  have:=hp.2.2;have e1:d'.extract 0 ss.length=d':=by rw [<- hd];simp
  have e2:ss.toArray.extract 0 ss.length=ss.toArray:=by simp
  rw [e1,e2] at this;simpa using this
 refine⟨rfl,d'.toList,hperm,by simpa [hd] using hs,⟨by rw [kRow_len];simp [hd],.inr ⟨blk,cap,_,rfl,hbase,heap_sortedK _ hb,h1,h2,by simp [putCells,h3],?_⟩⟩,grownBy_sortedK _⟩;have e3:flatK kCells 2 d'=(kRow d'.toList).toArray:=by
  have:=flat_kRow d'.toList;simp only [Array.toArray_toList] at this;rw [<- this]
 rw [e3];have:=take_putV cur (kRow d'.toList) (by rw [kRow_len];simp [hd];omega);rw [kRow_len] at this;simpa [hd] using this
theorem nodup_keys {ts:List Dt}(h:ts.Nodup)(hs:SortedIn (ltOf cmpDt) 0 ts.length ts.toArray):ts.Pairwise (fun x y=>cmpDt x y<0):=by
 have:=CmpT.dot.rises (d:=ts.toArray) (by simpa using hs) (by simpa using h);simpa using this
theorem sortedFuncK (g:Nat)(lb:Array Value)(eg:∀args w,(callFunc g args).run Tryz.prog w=.ok (.enter g args) w)(N:Nat)(f:Dt ->Option ByteArray)(w:World)(hN:N<=1048576)(hseq:SeqGives Fence.wide 4 Tryz.prog g lb dtV (KeysF f) N w):
  Calls Tryz.prog 88 #[.func (.func g) #[] lb,.func (.func 90) #[] #[]] w fun e w'=>∃(v:Value) (ts:List Dt),e=.returned v/\ ts.Pairwise (fun x y=>cmpDt x y<0)/\ (∀x,x∈ts↔f x≠none)/\ ts.length<=1048576/\ w'.ownsRow w.heap.size 63 2 v ts.length (kRow ts)/\ RowKit.Below w.heap.size w w':=by
 have HC:=hid (collectK g lb eg _ N (by unfold maxLen;omega) (by omega) w (SeqGives.bounded hseq));go_enter Tryz.func88,Tryz.ntmps88;go_wp2_with fail;refine HC.out.mono ?_;rintro e w1 ⟨v,ss,rfl,⟨hK,hlen⟩,hrow,hnil,hb⟩;rcases hrow.2 with ⟨rfl,hz⟩|⟨gb,cap,cur,rfl,hbase,hgb,r1,r2,r3,r4⟩
 ·have hss:ss=[]:=List.eq_nil_of_length_eq_zero hz;subst hss;have HB:=hid hb;have HK:=hid hK;have HR:=hid hrow;have hcon:=AnyF.slices_SortFunc_none Tryz.sortD none 0 (.func (.func 90) #[] #[]) w1;change Calls Tryz.prog 111 _ _ _ at hcon;have HS:=hid hcon;clear hb hK hrow HC hcon;go_wp2_with fail;refine HS.out.mono ?_;rintro e w2 ⟨rfl,rfl⟩;clear HS;go_wp2_with fail;go_ret;exact⟨_,[],rfl,List.Pairwise.nil,fun x=>HK.out.2 x,by simp,HR.out,HB.out⟩
 ·have HS:=hid (sortFuncK w.heap.size gb cap ss w1 hrow (by omega));have HB:=hid hb;have HK:=hid hK;have HL:Hid (ss.length<=1048576):=hid (by omega);have Hg:=hid hbase;clear hb hK hrow HC hnil;go_wp2_with fail;refine HS.out.mono ?_;rintro e w2 ⟨rfl,ts,hp,hs,ho,hg⟩;have HO:=hid ho;have HB2:=hid (HB.out.grown hg HB.out.size (fun k e=>by injection e with e;have:=Hg.out;omega));have HP:=hid hp;have HSo:=hid hs;clear ho hg hp hs HS;go_wp2_with fail;go_ret;refine⟨_,ts,rfl,nodup_keys (HP.out.nodup_iff.2 HK.out.1) HSo.out,fun x=>by rw [HP.out.mem_iff];exact HK.out.2 x,by rw [HP.out.length_eq];exact HL.out,?_,HB2.out⟩;rw [HP.out.length_eq];exact HO.out
theorem keysNilK (n l Bm:Nat)(J:List Dt ->World ->Prop)(W:World)(hJ:AbidesFrom W.heap.size J)(hm:W.cell? ⟨Bm,0,none⟩=some (.map none))(h0:J [] W):
  CallsIn Fence.wide n Tryz.prog 112 #[.func (.yield l) #[] #[],.pointer (some ⟨Bm,0,none⟩)] W fun e W'=>(∃v,e=.returned v)/\∃ss:List Dt,KeysF (fun _=>(none:Option ByteArray)) ss/\ J ss W':=by
 have hrg:=run_range_nilMap (P:=Tryz.prog) W 43 63 79 Tryz.underlying43;have hnx:∀ty,(Instr.next (.pointer (some ⟨W.heap.size,0,none⟩)) false ty).run Tryz.prog (W.alloc (.mapIter none 0 #[] 0))=_:=fun ty=>run_next_nilMap _ ty 0 0 #[];refine callsIn_of_wp Tryz.func112 rfl trivial ?_ rfl;simp only [Tryz.ntmps112,List.size_toArray,List.length_cons,List.length_nil,Nat.reduceAdd,Nat.reduceSub,Array.replicate_succ,Array.replicate_zero,List.push_toArray,List.append_toArray,List.nil_append,List.cons_append];gi_wp2
 refine wpIn_loop_rounds 1 ?_;rw [roundsIn_succ];gi_wp2
 go_end0;exact⟨⟨_,rfl⟩,[],⟨List.nodup_nil,fun x=>by simp⟩,hJ [] W _ none h0 (World.grownBy_alloc W _ none) (fun r e=>by cases e)⟩
theorem keysFnK (mb:Option Nat)(w:World):Calls Tryz.prog 89 #[.map mb] w fun e w'=>e=.returned (.func (.func 112) #[] #[.pointer (some ⟨w.heap.size,0,none⟩)])/\ w'=w.alloc (.cells #[.map mb] 43):=by
 go_enter Tryz.func89,Tryz.ntmps89;go_wp2_with fail;go_ret;exact⟨rfl,rfl⟩
theorem sortedDotsC (B c:Nat)(N:List Ky ->Option (Nat×Nat))(M:List Ky ->Dt ->Option ByteArray)(p:List Ky)(w:World)(hT:Tre w B N M c)(hc:c<=1048576):
  Calls Tryz.prog 71 #[.agg #[.map (mF (N p)),.map (mS (N p))]] w fun e w'=>∃(v:Value) (ts:List Dt),e=.returned v/\ ts.Pairwise (fun x y=>cmpDt x y<0)/\ (∀x,x∈ts↔M p x≠none)/\ ts.length<=1048576/\ w'.ownsRow w.heap.size 63 2 v ts.length (kRow ts)/\ RowKit.Below w.heap.size w w':=by
 obtain⟨u0,hu0⟩:∃u,mF (N p)=u:=⟨_,rfl⟩;obtain⟨u1,hu1⟩:∃u,mS (N p)=u:=⟨_,rfl⟩;rw [hu0,hu1];have HG:Hid (∀w1,RowKit.Below w.heap.size w w1 ->∀Bm,Bm<w1.heap.size ->w1.cell? ⟨Bm,0,none⟩=some (.map u1) ->∃n,n<=1048576/\ SeqGives Fence.wide 4 Tryz.prog 112 #[.pointer (some ⟨Bm,0,none⟩)] dtV (KeysF (M p)) n w1):=hid (fun w1 b1 Bm hBm hm=>by
  cases e:N p with
  | some x=>
   obtain⟨D,hF⟩:=(hT.below b1).marks p x e;have:u1=some x.2:=by rw [<- hu1,e];rfl
   rw [this] at hm;exact⟨Maps.size D,Nat.le_trans hF.own.size_le hc,keysGivesK Bm x.2 c _ D w1 hBm hm hF⟩
  | none=>
   have:u1=none:=by rw [<- hu1,e];rfl
   rw [this] at hm;refine⟨0,by omega,fun l J W hW hJ hY h0=> ?_⟩;have e2:M p=fun _=>none:=funext fun y=>by rw [hT.none' _ e]
   rw [e2];exact keysNilK 4 l Bm J W hJ ((hW.cell (p:=⟨Bm,0,none⟩) hBm).trans hm) h0)
 obtain⟨W,hW⟩:∃W,w.alloc (.cells #[.map u0,.map u1] 45)=W:=⟨_,rfl⟩;have b0:RowKit.Below w.heap.size w W:=by rw [<- hW];exact(RowKit.Below.refl _ _).alloc (Nat.le_refl _) _
 have X0:Bx2 W w.heap.size (.map u0) (.map u1):=by rw [<- hW];exact Bx2.made _ _ _ _
 have k0:=X0.c1;have HB:=hid b0;clear hT b0 X0 hu0 hu1;go_enter Tryz.func71,Tryz.ntmps71;go_wp2_with fail;try rw [hW]
 clear hW;refine(keysFnK u1 W).mono ?_;rintro e w1 ⟨rfl,hw1⟩;have b1:RowKit.Below W.heap.size W w1:=by rw [hw1];exact(RowKit.Below.refl _ _).alloc (Nat.le_refl _) _
 have c1:w1.cell? ⟨W.heap.size,0,none⟩=some (.map u1):=by rw [hw1];simp
 have z1:W.heap.size<w1.heap.size:=by rw [hw1];simp
 have HB1:=hid (HB.out.trans (b1.mono HB.out.size));obtain⟨n,hn,hseq⟩:=HG.out w1 HB1.out W.heap.size z1 c1;have HS:=hid (sortedFuncK _ _ (enters_of Tryz.func112 (by kernel_rfl) rfl) n (M p) w1 hn hseq);clear hseq hw1 b1 c1 z1 k0 HG;go_wp2_with fail;refine HS.out.mono ?_;rintro e w2 ⟨v,ts,rfl,hp,hm,hl,ho,hb⟩;have HX:=hid (And.intro hp (And.intro hm hl));have HB2:=hid (HB1.out.trans (hb.mono HB1.out.size));have HO:Hid (w2.ownsRow w.heap.size 63 2 v ts.length (kRow ts)):=hid (by
  obtain⟨q1,q2⟩:=ho;refine⟨q1,?_⟩;rcases q2 with q2|⟨g,cap,cur,e,hbg,r⟩
  ·exact .inl q2
  ·exact .inr ⟨g,cap,cur,e,Nat.le_trans HB1.out.size hbg,r⟩)
 clear hp hm hl ho hb HS;go_wp2_with fail;go_ret;exact⟨v,ts,rfl,HX.out.1,HX.out.2.1,HX.out.2.2,HO.out,HB2.out⟩
end Go.Proofs.YtpfmeafmepgimaaGreat.Ds
