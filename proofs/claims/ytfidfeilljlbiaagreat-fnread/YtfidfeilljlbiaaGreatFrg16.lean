import Derived.Test.YtfidfeilljlbiaaGreatFrg10
import Derived.Test.YtfidfeilljlbiaaGreatFrhShel2
import Derived.Shelf.SlIter.Collect
import Derived.Sort.MapsRangeIn
import Derived.WalkSmall
import Derived.Shelf.SlSortCmp.NoneTotal
import Derived.RangeFuncBound
import Derived.Test.YtfidfeilljlbiaaGreatFrg14
import Derived.Test.YtfidfeilljlbiaaGreatFrg11
import Derived.Test.YtfidfeilljlbiaaGreatFrg09
import Derived.Test.YtfidfeilljlbiaaGreatFrg05
set_option linter.unusedVariables false
set_option linter.unusedSimpArgs false
set_option maxRecDepth 100000
set_option maxHeartbeats 40000000
namespace Go.Proofs.YtfidfeilljlbiaaGreat
open Go.ChangeShapes Go.WideShapes Go.ChangeAt Go.RowKit Go.Maps Go.Sort Go.Lib Go.Shelf
theorem keysItK (n l Bm b nn:Nat)(f:Ky ->Option (Nat×Nat))(D0:DataW Value)(J:List Ky ->World ->Prop)(hn:1<=n)
  (hY:∀pre x W,J pre W ->pre.length<Maps.size D0 ->YieldAt Fence.wide (n - 1) Tryz.prog l #[keyV x] W fun e W'=>e=.returned (.bool true)/\ J (pre++[x]) W'/\ KeepsWalks W W')
  (W:World) (hJ:AbidesFrom W.heap.size J) (hm:W.cell? ⟨Bm,0,none⟩=some (.map (some b))) (hF:FM W 114 keyV nodV b nn f D0) (h0:J [] W):
  CallsIn Fence.wide n Tryz.prog 98 #[.func (.yield l) #[] #[],.pointer (some ⟨Bm,0,none⟩)] W fun e W'=>(∃v,e=.returned v)/\∃ss,KeysF f ss/\ J ss W':=by
 have Hi:=hF.own;have HF:=hid hF;have HJ:=hid hJ;have HY:=hid hY;clear hF hJ hY;refine callsIn_of_wp Tryz.func98 rfl trivial ?_ rfl;simp only [Tryz.ntmps98,List.size_toArray,List.length_cons,List.length_nil,Nat.reduceAdd,Nat.reduceSub,Array.replicate_succ,Array.replicate_zero,List.push_toArray,List.append_toArray,List.nil_append,List.cons_append];gi_wp2_with (first
  | (gi_at_range;refine wpListIn_range_own _ rfl _ 62 rfl 114 65 keyKeyed Tryz.underlying62 _ b nn _ rfl Hi ?_;intro w0 Hk Hv H4)
  | gi_in)
 try go_frame
 gi_loopw [3] (fun _ wr=>∃(Ha:Lit ->Bool) (Hf:Nat) (ss:List Ky),wr.ranges Tryz.prog 114 allR b W.heap.size nn D0 Ha Hf/\ ss.length+Hf<=Maps.size D0/\ CollF 114 keyV f Ha ss/\ J ss wr)
  (fun _ wr=>wr.rangeLeft b W.heap.size)
 case atStart=>exact⟨_,_,[],Hk,by simp,CollF.start HF.out,HJ.out [] W w0 none h0 Hv (fun r e=>by cases e)⟩
 case round=>
  obtain⟨Ha,Hf,ss,Hj,Ho,hC,Hn⟩:=hrel;have HC:=hid hC;have Hm:=hid Ho;clear hC Ho;gi_wp2_with (first
   | (gi_at_next;refine wpListIn_next_ranges _ rfl _ rfl 114 keyKeyed allR keyV id (fun key kl hk=>keyOf_key hk) (fun v _ _=>⟨v,rfl⟩) b W.heap.size nn _ _ _ rfl Hj ?_ ?_)
   | gi_in)
  ·intro H3 Hy;gi_wp2
   go_end0;exact⟨⟨_,rfl⟩,ss,HC.out.done HF.out Hy,Hn⟩
  ·intro xs xk c kl yd yp w2 Hg Hh Hz hv Ht Hl H0 Hw H1 Hu;have Hq:J ss w2:=HJ.out ss wr w2 (some W.heap.size) Hn Hw (fun r e=>by cases e;exact⟨Nat.le_refl _,Hj.iter_walk⟩);obtain⟨w3,Hd⟩:∃w3,w2.alloc (.cells #[.string xs,.int .i64 xk] 114)=w3:=⟨_,rfl⟩;have Hr:J ss w3:=by rw [<- Hd];exact HJ.out ss w2 _ none Hq (World.grownBy_alloc w2 _ none) (fun r e=>by cases e)
   obtain⟨fn,H2,He,Hp,hy,hR⟩:=HY.out ss (xs,xk) w3 Hr (by have:=Hm.out;omega);have K3:Bx2 w3 w2.heap.size (.string xs) (.int .i64 xk):=by rw [<- Hd];exact Bx2.made _ _ _ _
   have Hb:=Hl.alloc (.cells #[.string xs,.int .i64 xk] 114);rw [Hd] at Hb;have q0:=K3.c0;have q1:=K3.c1;clear H1 K3;dsimp only [keyV] at Hu hy hR ⊢;gi_wp2
   try rw [Hd]
   refine hR.mono ?_;rintro e W3 ⟨rfl,Hs,Hx⟩;gi_wp2
   have Hc:=Hb.of_walks Hx;go_roundw;case rel=>exact⟨_,Hg,ss++[(xs,xk)],Hc,by have:=Hm.out;simp;omega,HC.out.step HF.out keyKeyed (fun _ _=>keyV_inj) Hh Hz Ht,Hs⟩
   case measure=>rw [Hc.left_eq,Hj.left_eq];exact H0
def kCells (x:Ky):List Value:=[.string x.1,.int .i64 x.2]
def kRow (ss:List Ky):List Value:=ss.flatMap kCells
theorem kRow_snoc (ss:List Ky)(x:Ky):kRow (ss++[x])=kRow ss++kCells x:=by simp [kRow]
theorem infoKey:(Tryz.prog.info? 114).map (fun i=>(i.zero,i.size,i.bytes))=some (some (.agg #[.string ByteArray.empty,.int .i64 0]),2,24):=by kernel_rfl
def apA:Code:=(Code.region 2 #[{dst:=some 5,op:=Op.alloc 114,type:=0,pos:= "iter.go:51",after:=#[],guard:=none},{dst:=none,op:=Op.store 114 (Operand.tmp 5) (Operand.tmp 7),type:=0,pos:= "iter.go:51",after:=#[{on:=0,ground:=Ground.data},{on:=0,ground:=Ground.phase}],guard:=none}] false)
def apB:Code:=(Code.block 1 (Code.region 3 #[{dst:=some 8,op:=Op.load 40 (Operand.tmp 2),type:=40,pos:= "iter.go:52",after:=#[],guard:=none},{dst:=some 9,op:=Op.load 114 (Operand.tmp 5),type:=114,pos:= "iter.go:52",after:=#[],guard:=none},{dst:=some 10,op:=Op.buildSlice 40 1 #[(0,Operand.tmp 9)],type:=40,pos:= "iter.go:52",after:=#[{on:=1,ground:=Ground.data}],guard:=none},{dst:=some 11,op:=Op.call {callee:=Callee.builtin Builtin.append,args:=#[Operand.tmp 8,Operand.tmp 10],argTypes:=#[40,40]},type:=40,pos:= "iter.go:52",after:=#[{on:=0,ground:=Ground.data},{on:=2,ground:=Ground.data}],guard:=none},{dst:=none,op:=Op.store 40 (Operand.tmp 2) (Operand.tmp 11),type:=0,pos:= "iter.go:52",after:=#[{on:=3,ground:=Ground.data},{on:=3,ground:=Ground.chain},{on:=0,ground:=Ground.phase},{on:=1,ground:=Ground.phase},{on:=2,ground:=Ground.phase},{on:=3,ground:=Ground.phase}],guard:=none}] false))
def apRec (fn:FuncId)(sv:Value)(Bs D:Nat)(st:LoopState):Loop:=
 {state:=st,pending:=none,fn,tmps:=#[.slice none 0 0,sv,.pointer (some ⟨Bs,0,none⟩),undef,.slice none 0 0,undef,sv,undef,undef,undef,undef,undef,undef],params:=#[7],assign:=apA,body:=apB,defers:=D}
structure ApAt (w0:World)(fn:FuncId)(sv:Value)(Bs l D:Nat)(ss:List Ky)(W:World):Prop where
 box:∃v,W.heap[Bs]? =some (.cells #[v] 40 (0,0))/\ W.ownsRow w0.heap.size 114 2 v ss.length (kRow ss)/\ (v=.slice none 0 0↔ss=[])
 L:W.heap[l]? =some (.loop (apRec fn sv Bs D .ready))
 K:W.heap[D]? =some (.deferred (some []))
 below:RowKit.Below w0.heap.size w0 W
theorem ap_abides (w0:World)(fn:FuncId)(sv:Value)(Bs l D B:Nat)(hB:w0.heap.size<=B):AbidesFrom B (ApAt w0 fn sv Bs l D):=fun s W W' row h hg hrow=>by
 have Ha:∀r,row=some r ->∃o:Obj,W.heap[r]? =some o/\ o.isWalk=true:=fun r e=>(hrow r e).2;obtain⟨v,hv,hr,hn⟩:=h.box;exact⟨⟨v,(grownBy_keeps hg Ha hv rfl).trans hv,ownsRow_abides_a hr hg Ha,hn⟩,(grownBy_keeps hg Ha h.L rfl).trans h.L,(grownBy_keeps hg Ha h.K rfl).trans h.K,h.below.grown hg h.below.size (fun k e=>Nat.le_trans hB (hrow k e).1)⟩
theorem apYieldK (m:Nat)(w0:World)(fn:FuncId)(sv:Value)(Bs l D:Nat)(hBl:Bs≠l)(hDl:D≠l)(hDB:D≠Bs)(h0B:w0.heap.size<=Bs)(h0l:w0.heap.size<=l)
    (N:Nat) (hN:N<=maxLen) (hNb:N*24<=140737488355328) (ss:List Ky) (x:Ky) (W:World) (h:ApAt w0 fn sv Bs l D ss W) (hlen:ss.length<N):
    YieldAt Fence.wide m Tryz.prog l #[keyV x] W fun e W'=>e=.returned (.bool true)/\ ApAt w0 fn sv Bs l D (ss++[x]) W'/\ KeepsWalks W W':=by
  have H3:40≠114:=by decide
  obtain⟨i0,hi,Gd,Ge,Gf⟩:=info_parts infoKey;refine⟨fn,#[.slice none 0 0,sv,.pointer (some ⟨Bs,0,none⟩),undef,.slice none 0 0,undef,sv,keyV x,undef,undef,undef,undef,undef],apA,apB,by simpa [apRec] using run_yield (P:=Tryz.prog) (args:=#[keyV x]) h.L rfl,roundIn_of_wpIn trivial ?_⟩;obtain⟨xs,xk⟩:=x;obtain⟨W1,Ht⟩:∃W1,W.alloc (.cells #[.string xs,.int .i64 xk] 114)=W1:=⟨_,rfl⟩;have h1:ApAt w0 fn sv Bs l D ss W1:=by rw [<- Ht];exact ap_abides w0 fn sv Bs l D w0.heap.size zL ss W _ none h (World.grownBy_alloc W _ none) (fun r e=>by cases e)
  have H2:KeepsWalks W W1:=by rw [<- Ht];exact KeepsWalks.alloc _ _
  have X1:Bx2 W1 W.heap.size (.string xs) (.int .i64 xk):=by rw [<- Ht];exact Bx2.made _ _ _ _
  have Gk:l<W.heap.size:=(Array.getElem?_eq_some_iff.1 h.L).1;obtain⟨v,hv,Hh,_⟩:=h1.box;have hl:l<W1.heap.size:=(Array.getElem?_eq_some_iff.1 h1.L).1;have H6:=run_beginRound (P:=Tryz.prog) h1.L rfl;obtain⟨W2,Hg⟩:∃W2,W1.putObj l (.loop {apRec fn sv Bs D .ready with state:=.busy})=W2:=⟨_,rfl⟩;rw [Hg] at H6;have Hl:W1.grownBy W2 (some l):=by rw [<- Hg];exact grownBy_putObj_a _ _ _
  have H8:KeepsWalks W W2:=H2.trans (by rw [<- Hg];exact KeepsWalks.putObj _ h1.L rfl);have Hn:W2.heap[Bs]? =some (.cells #[v] 40 (0,0)):=by rw [<- Hg];exact(World.putObj_heap_other hBl).trans hv
  have Hr:W2.heap[D]? =some (.deferred (some [])):=by rw [<- Hg];exact(World.putObj_heap_other hDl).trans h1.K
  have Hs:W2.heap[l]? =some (.loop {apRec fn sv Bs D .ready with state:=.busy}):=by rw [<- Hg];exact World.putObj_heap_same hl
  have Hc:W2.ownsRow w0.heap.size 114 2 v ss.length (kRow ss):=Hh.kept Hl (ownsRow_ne_a Hh h1.L (fun cur e=>by cases e));have Hk:RowKit.Below w0.heap.size w0 W2:=h1.below.grown Hl h1.below.size (fun k e=>by cases e;exact h0l);have e2:W2.heap[W.heap.size]? =W1.heap[W.heap.size]? :=Hl.block _ X1.lt (fun e=>by injection e with e;omega);have q0:W2.cell? ⟨W.heap.size,0,none⟩=some (.string xs):=(World.cell?_of_block (a:=⟨W.heap.size,0,none⟩) e2).trans X1.c0;have q1:W2.cell? ⟨W.heap.size,1,none⟩=some (.int .i64 xk):=(World.cell?_of_block (a:=⟨W.heap.size,1,none⟩) e2).trans X1.c1;obtain⟨Gg,Gi⟩:=cell_of_box_a Hn;have Hp:Bs<W2.heap.size:=(Array.getElem?_eq_some_iff.1 Hn).1;have Ga:l<W2.heap.size:=(Array.getElem?_eq_some_iff.1 Hs).1;have Hq:D<W2.heap.size:=(Array.getElem?_eq_some_iff.1 Hr).1;have ne_of:∀{j:Nat} {o:Obj},W2.heap[j]? =some o ->(∀cur,o≠.cells cur 114 (0,0)) ->some j≠v.ownBlock:=fun hj hno=>by
    rcases ownsRow_ne_a Hc hj hno with e|e
    · rw [e];simp
    · exact fun e'=>e e'.symm
  have Ho:=hid Hc;have HZ:=hid Hk.size;clear Hg Hh Hc X1 e2 Hl H2;unfold apA;dsimp only [keyV];gi_wp2_with gi_round_op_a
  unfold apB;gi_wp2_with (first
    | (gi_at_builtin;refine wpListIn_append_own _ rfl _ _ 40 rfl w0.heap.size 114 i0 (.agg #[.string ByteArray.empty,.int .i64 0]) 2 24 Tryz.underlying40 hi Gd Ge Gf rfl (by decide) _ _ _ rfl (Ho.out.alloc _) ⟨W2.heap.size,0,none⟩ 1 1 [.string xs,.int .i64 xk] rfl rfl (cell_two_new _ _ _ _) (by simp [Value.oneCell']) (by omega) (by omega) (by have:=HZ.out;simp;omega) ?_;intro v' w3 Hb H1 H4
       have Hv:w3.heap[Bs]? =some (.cells #[v] 40 (0,0)):=(H1.block Bs (by simp;omega) (ne_of Hn (fun cur e=>H3 (Obj.cells.inj e).2.1))).trans ((Below.heap_alloc _ _ Bs Hp).trans Hn)
       obtain⟨Gh,Gj⟩:=cell_of_box_a Hv
       obtain⟨g',Ha,Hd,rfl,Hu,H7,Gl,Gm,Gn,Go⟩:∃g' Ha Hd,v'=.slice (some ⟨g',0,none⟩) (ss.length+1) Ha/\ w0.heap.size<=g'/\ w3.heap[g']? =some (.cells Hd 114 (0,0))/\ ss.length+1<=Ha/\ Ha<=maxLen/\ Hd.size=Ha*2/\ Hd.toList.take ((ss.length+1)*2)=kRow ss++[.string xs,.int .i64 xk]:=by
         rcases Hb.2 with ⟨_,h0⟩|h'
         · exact absurd h0 (by omega)
         · exact h'
       have Hw:=hid Hb
       clear Hb
       try go_frame)
    | gi_round_op_a)
  have He:(W2.alloc (.cells #[.string xs,.int .i64 xk] 114)).grownBy w3 v.ownBlock:=H1;have Hy:w3.heap[l]? =some (.loop {apRec fn sv Bs D .ready with state:=.busy}):=(He.block l (by simp;omega) (ne_of Hs (fun cur e=>by cases e))).trans ((Below.heap_alloc _ _ l Ga).trans Hs);have Hx:w3.heap[D]? =some (.deferred (some [])):=(He.block D (by simp;omega) (ne_of Hr (fun cur e=>by cases e))).trans ((Below.heap_alloc _ _ D Hq).trans Hr);obtain⟨w4,Hi⟩:∃w4,w3.setCell ⟨Bs,0,none⟩ (.slice (some ⟨g',0,none⟩) (ss.length+1) Ha)=w4:=⟨_,rfl⟩;rw [Hi];have Hm:w3.grownBy w4 (some Bs):=by rw [<- Hi];exact grownBy_setCell0_a _ _ _
  have Gc:w4.heap[Bs]? =some (.cells #[.slice (some ⟨g',0,none⟩) (ss.length+1) Ha] 40 (0,0)):=by rw [<- Hi];exact heap_setCell_box_a _ Hv
  have Hj:w4.heap[l]? =some (.loop {apRec fn sv Bs D .ready with state:=.busy}):=(Hm.block l (Array.getElem?_eq_some_iff.1 Hy).1 (fun e=>hBl (by cases e;rfl))).trans Hy;have H5:w4.heap[D]? =some (.deferred (some [])):=(Hm.block D (Array.getElem?_eq_some_iff.1 Hx).1 (fun e=>hDB (by cases e;rfl))).trans Hx;have Hf:=Hw.out.kept Hm (ownsRow_ne_a Hw.out Hv (fun cur e=>H3 (Obj.cells.inj e).2.1));have Gb:l<w4.heap.size:=(Array.getElem?_eq_some_iff.1 Hj).1;have Hz:RowKit.Below w0.heap.size w0 w3:=(Hk.alloc Hk.size _).grown He (by have:=Hk.size;simp;omega) (fun k e=>(Ho.out.lt k e).1);have H0:RowKit.Below w0.heap.size w0 w4:=Hz.grown Hm Hz.size (fun k e=>by cases e;exact h0B);have H9:KeepsWalks W w4:=((H8.trans (KeepsWalks.alloc _ _)).trans (KeepsWalks.of_grownBy He (ownsRow_not_walk_a (Ho.out.alloc _)))).trans (by rw [<- Hi];exact KeepsWalks.setCell _ _ _);clear Hi;refine⟨_,_,run_endRound none Hj,rfl,⟨⟨_,(World.putObj_heap_other hBl).trans Gc,?_,by simp⟩,World.putObj_heap_same Gb,(World.putObj_heap_other hDl).trans H5,H0.grown (grownBy_putObj_a _ _ _) H0.size (fun k e=>by cases e;exact h0l)⟩,H9.trans (KeepsWalks.putObj _ Hj rfl)⟩;have:=Hf.kept (grownBy_putObj_a w4 l (.loop {{apRec fn sv Bs D .ready with state:=.busy} with state:=if (none:Option Code).isNone then .ready else .done,pending:=none})) (ownsRow_ne_a Hf Hj (fun cur e=>by cases e));rw [kRow_snoc];simpa [kCells] using this
theorem appendSeqK (n:Nat)(hn:2<=n)(g:Nat)(lb:Array Value)(eg:∀args w,(callFunc g args).run Tryz.prog w=.ok (.enter g args) w)
  (S:List Ky ->Prop) (N:Nat) (hN:N<=maxLen) (hNb:N*24<=140737488355328) (w:World) (hseq:SeqGives Fence.wide (n - 1) Tryz.prog g lb keyV S N w):
  CallsIn Fence.wide n Tryz.prog 123 #[.slice none 0 0,.func (.func g) #[] lb] w fun e w'=>∃(v:Value) (ss:List Ky),e=.returned v/\ S ss/\ w'.ownsRow w.heap.size 114 2 v ss.length (kRow ss)/\ (v=.slice none 0 0↔ss=[])/\ RowKit.Below w.heap.size w w':=by
 have Hu:40≠114:=by decide
 refine callsIn_of_wp_marks Tryz.func123 rfl trivial ?_ rfl;simp only [Tryz.ntmps123,List.size_toArray,List.length_cons,List.length_nil,Nat.reduceAdd,Nat.reduceSub,Array.replicate_succ,Array.replicate_zero,List.push_toArray,List.append_toArray,List.nil_append,List.cons_append];gi_wp2
 refine wpIn_rangeFunc ?_;intro fn Ht;obtain⟨W0,Hf⟩:∃W0,w.alloc (.cells #[.slice none 0 0] 40)=W0:=⟨_,rfl⟩;have Hn:W0.heap.size=w.heap.size+1:=by rw [<- Hf];simp
 have Ho:W0.heap[w.heap.size]? =some (.cells #[.slice none 0 0] 40 (0,0)):=by rw [<- Hf];exact World.alloc_heap_new w _
 have Hg:RowKit.Below w.heap.size w W0:=by rw [<- Hf];exact(RowKit.Below.refl _ w).alloc zL _
 rw [Hf];obtain⟨W1,Hc⟩:∃W1,(W0.alloc (.deferred (some []))).alloc (.loop (apRec fn (.func (.func g) #[] lb) w.heap.size W0.heap.size .ready))=W1:=⟨_,rfl⟩;have Hj:∀k,k<W0.heap.size ->W1.heap[k]? =W0.heap[k]? :=fun k hk=>by
  rw [<- Hc];exact(Below.heap_alloc _ _ k (by simp;omega)).trans (Below.heap_alloc _ _ k hk)
 have Hh:RowKit.Below w.heap.size w W1:=by rw [<- Hc];exact(Hg.alloc Hg.size _).alloc (by have:=Hg.size;simp;omega) _
 have hM:ApAt w fn (.func (.func g) #[] lb) w.heap.size (W0.heap.size+1) W0.heap.size [] W1:=
  ⟨⟨_,(Hj w.heap.size (by omega)).trans Ho,⟨rfl,.inl ⟨rfl,rfl⟩⟩,by simp⟩,
   by rw [<- Hc];have:=World.alloc_heap_new (W0.alloc (.deferred (some []))) (.loop (apRec fn (.func (.func g) #[] lb) w.heap.size W0.heap.size .ready));rwa [World.size_alloc] at this,
   by rw [<- Hc];exact(Below.heap_alloc _ _ _ (by simp)).trans (World.alloc_heap_new W0 _),Hh⟩
 refine⟨W0.heap.size+1,[{target:=.collected W0.heap.size,args:=#[]}],W1,{target:=.fn (.func g) lb,args:=#[.func (.yield (W0.heap.size+1)) #[] #[]]},W1,g,
  #[.func (.yield (W0.heap.size+1)) #[] #[]]++lb,W1,?_,?_,?_,?_,fun _=>by omega,?_⟩
 ·rw [<- Hc];exact run_enterLoop_outer _ _ _ _ _
 ·simp [resolve,go_sem]
 ·intro f' Hr;trivial
 ·simp [invoke,go_sem,eg]
 ·refine(hseq (W0.heap.size+1) (ApAt w fn (.func (.func g) #[] lb) w.heap.size (W0.heap.size+1) W0.heap.size) W1 Hh (ap_abides _ _ _ _ _ _ _ Hh.size)
   (fun pre x W hJ hl=>apYieldK (n - 1 - 1) w fn _ w.heap.size (W0.heap.size+1) W0.heap.size (by omega) (by omega) (by omega) zL (by omega) N hN hNb pre x W hJ hl) hM).mono ?_
  rintro e W2 ⟨⟨v0,rfl⟩,ss,hS,h2⟩;obtain⟨v,hv,Hb,Hi⟩:=h2.box;have He:=run_endLoop (P:=Tryz.prog) h2.L (by simp [apRec]);obtain⟨W3,Hd⟩:∃W3,W2.putObj (W0.heap.size+1) (.loop {apRec fn (.func (.func g) #[] lb) w.heap.size W0.heap.size .ready with state:=.exhausted})=W3:=⟨_,rfl⟩;rw [Hd] at He;have Hm:W2.grownBy W3 (some (W0.heap.size+1)):=by rw [<- Hd];exact grownBy_putObj_a _ _ _
  have Hp:W3.heap[w.heap.size]? =some (.cells #[v] 40 (0,0)):=by rw [<- Hd];exact(World.putObj_heap_other (by omega)).trans hv
  have Hk:W3.heap[W0.heap.size]? =some (.deferred (some [])):=by rw [<- Hd];exact(World.putObj_heap_other (by omega)).trans h2.K
  have Ha:=Hb.kept Hm (ownsRow_ne_a Hb h2.L (fun cur e=>by cases e));have Hl:RowKit.Below w.heap.size w W3:=h2.below.grown Hm h2.below.size (fun k e=>by cases e;omega);obtain⟨Hq,Hs⟩:=cell_of_box_a Hp;have HR:=hid Ha;clear Hd Hb Ha;refine⟨none,W3,He,?_⟩;gi_wp2
  rw [<- Hn];refine⟨by simp,.inl ⟨_,_,rfl,run_takeDeferred Hk,?_⟩⟩;exact⟨_,results_tmp rfl _ _ _,v,ss,rfl,hS,HR.out.kept (grownBy_putObj_a _ _ _) (ownsRow_ne_a HR.out Hk (fun cur e=>by cases e)),Hi,Hl.grown (grownBy_putObj_a _ _ _) Hl.size (fun k e=>by cases e;omega)⟩
theorem collectK (g:Nat)(lb:Array Value)(eg:∀args w,(callFunc g args).run Tryz.prog w=.ok (.enter g args) w)
  (S:List Ky ->Prop) (N:Nat) (hN:N<=maxLen) (hNb:N*24<=140737488355328) (w:World) (hseq:SeqGives Fence.wide 4 Tryz.prog g lb keyV S N w):
  Calls Tryz.prog 96 #[.func (.func g) #[] lb] w fun e w'=>∃(v:Value) (ss:List Ky),e=.returned v/\ S ss/\ w'.ownsRow w.heap.size 114 2 v ss.length (kRow ss)/\ (v=.slice none 0 0↔ss=[])/\ RowKit.Below w.heap.size w w':=by
 have HA:=hid ((callsIn_wide (n:=5)).1 (appendSeqK 5 (by omega) g lb eg S N hN hNb w hseq));go_enter Tryz.func96,Tryz.ntmps96;go_wp2_with fail;refine HA.out.mono ?_;rintro e w' ⟨v,ss,rfl,hS,Hb,Ha,hb⟩;have HX:=hid (And.intro hS (And.intro Hb (And.intro Ha hb)));clear hS Hb Ha hb HA;go_wp2_with fail;go_ret;exact⟨v,ss,rfl,HX.out.1,HX.out.2.1,HX.out.2.2.1,HX.out.2.2.2⟩
theorem keysGivesK (Bm b nn:Nat)(f:Ky ->Option (Nat×Nat))(D0:DataW Value)(w:World)(hBm:Bm<w.heap.size)(hm:w.cell? ⟨Bm,0,none⟩=some (.map (some b)))(hF:FM w 114 keyV nodV b nn f D0):
  SeqGives Fence.wide 4 Tryz.prog 98 #[.pointer (some ⟨Bm,0,none⟩)] keyV (KeysF f) (Maps.size D0) w:=fun l J W hW hJ hY h0=>by
 have Ha:FM W 114 keyV nodV b nn f D0:=⟨own_same hF.own (hW.block b hF.own.lt),hF.at',hF.cov,hF.ok⟩;exact keysItK 4 l Bm b nn f D0 J (by omega) hY W hJ ((hW.cell (p:=⟨Bm,0,none⟩) hBm).trans hm) Ha h0
theorem compareKeysW (x y:Ky)(w:World):Calls Tryz.prog 67 #[.agg #[.string x.1,.int .i64 x.2],.agg #[.string y.1,.int .i64 y.2]] w fun e w'=>e=.returned (.int .i64 (cmpK x y))/\ Bw w w':=by
 obtain⟨s,k⟩:=x;obtain⟨s',k'⟩:=y;dsimp only;obtain⟨W,hW⟩:∃W,(w.alloc (.cells #[.string s,.int .i64 k] 114)).alloc (.cells #[.string s',.int .i64 k'] 114)=W:=⟨_,rfl⟩;have b0:Bw w W:=by rw [<- hW];exact⟨below2 _ _ _,Nat.le_refl _⟩
 have X0:Bx2 W w.heap.size (.string s) (.int .i64 k):=by rw [<- hW];exact(Bx2.made w _ _ _).allocs _
 have X1:Bx2 W (w.heap.size+1) (.string s') (.int .i64 k'):=by rw [<- hW];simpa using Bx2.made (w.alloc (.cells #[.string s,.int .i64 k] 114)) (.string s') (.int .i64 k') 114
 have Ha:=hid b0;have Hc:=hid X0;have Hd:=hid X1;clear b0 X0 X1;go_enter Tryz.func67,Tryz.ntmps67;go_wp2_with fail;try rw [hW]
 clear hW;have Hb:Hid (∀w',Bw W w' ->(Bw W w'/\ w'.cell? ⟨w.heap.size,0,none⟩=some (.string s)/\ w'.cell? ⟨w.heap.size,1,none⟩=some (.int .i64 k)/\ w'.cell? ⟨w.heap.size+1,0,none⟩=some (.string s')/\ w'.cell? ⟨w.heap.size+1,1,none⟩=some (.int .i64 k'))):=hid (fun w' hB=>by
  have x0:=Hc.out.below hB.1 Hc.out.lt;have x1:=Hd.out.below hB.1 Hd.out.lt;exact⟨hB,x0.c0,x0.c1,x1.c0,x1.c1⟩)
 refine zR (S:=fun w'=>Bw W w'/\ w'.cell? ⟨w.heap.size,0,none⟩=some (.string s)/\ w'.cell? ⟨w.heap.size,1,none⟩=some (.int .i64 k)/\ w'.cell? ⟨w.heap.size+1,0,none⟩=some (.string s')/\ w'.cell? ⟨w.heap.size+1,1,none⟩=some (.int .i64 k')) (Hb.out _ ⟨zI.drew,Nat.le_succ _⟩) (fun qh=> ?_);refine tZ 0 5 ?_;refine tZ 1 6 ?_;refine tZ 2 7 ?_;refine tZ 3 8 ?_;refine tZ 5 10 ?_;refine tZ 6 11 ?_;refine tZ 7 12 ?_;refine tZ 8 13 ?_;refine cZ 4 ?_;intro K hK;go_simp;refine(cmpStr s s' _).mono ?_;rintro e w1 ⟨rfl,rfl⟩;refine hK.out _ _ qh (fun qh=> ?_);clear hK K;try simp only [zP]
 refine cZ 9 ?_;intro K hK;go_simp;refine(compare k k' _).mono ?_;rintro e w2 ⟨rfl,rfl⟩;refine hK.out _ _ qh (fun qh=> ?_);clear hK K;try simp only [zP]
 refine cZ 10 ?_;intro K hK;go_simp;have hB:Bw W (W.drew.alloc (.cells #[.int .i64 (cmpS s s'),.int .i64 (cmpI k k')] 3)):=⟨qh.1.1.alloc qh.1.1.size _,qh.1.2⟩;refine hK.out _ _ (Hb.out _ hB) (fun qh=> ?_);clear hK K;try simp only [zP]
 refine cZ 11 ?_;intro K hK;go_simp;refine(cmpOr _ 2 2 (fun i=>if i=0 then cmpS s s' else cmpI k k') _ (by omega) (fun i hi=> ?_)).mono ?_
 ·match i,hi with
  | 0,_=>simp
  | 1,_=>simp
 rintro e w3 ⟨rfl,rfl⟩;refine hK.out _ _ qh (fun qh=> ?_);clear hK K;try simp only [zP]
 refine tZ 12 4 ?_;refine zD ?_;have HB:Hid (Bw w (W.drew.alloc (.cells #[.int .i64 (cmpS s s'),.int .i64 (cmpI k k')] 3))):=hid ⟨Ha.out.1.trans (qh.1.1.mono Ha.out.1.size),Nat.le_trans Ha.out.2 qh.1.2⟩;clear qh hB;go_wp2_with fail;go_ret;exact⟨ret_i nz2,HB.out⟩
instance:Inhabited Ky:=⟨(ByteArray.empty,0)⟩
theorem kCells_len (x:Ky):(kCells x).length=2:=rfl
theorem kRow_len (ss:List Ky):(kRow ss).length=ss.length*2:=by
 induction ss with
 | nil=>rfl
 | cons x r ih=>simp only [kRow,List.flatMap_cons,List.length_append,List.length_cons] at*;rw [ih,kCells_len];omega
theorem kRow_get:∀(ss:List Ky) (t:Nat),t<ss.length*2 ->(kRow ss)[t]? =some ((kCells ss.toArray[t/2]!)[t%2]!)
 | [],t,h=>by simp at h
 | x::r,t,h=>by
  rcases Nat.lt_or_ge t 2 with h2|h2
  ·have:t=0 \/t=1:=by omega
   rcases this with rfl|rfl<;>simp [kRow,kCells]
  ·obtain⟨u,rfl⟩:∃u,t=u+2:=⟨t - 2,by omega⟩;have ih:=kRow_get r u (by simp at h;omega);have e1:(u+2)/2=u/2+1:=by omega
   have e2:(u+2)%2=u%2:=by omega
   rw [e1,e2];have hu:u/2<r.length:=by simp at h;omega
   have e3:(x::r).toArray[u/2+1]! =r.toArray[u/2]! :=by
    rw [getElem!_pos _ _ (by simp;omega),getElem!_pos _ _ (by simpa using hu)];simp
   rw [e3,<- ih];simp [kRow,kCells]
theorem flat_kRow (ss:List Ky):(flatK kCells 2 ss.toArray).toList=kRow ss:=by
 apply List.ext_getElem?;intro t;by_cases h:t<ss.length*2
 ·rw [kRow_get ss t h];have h':t<(flatK kCells 2 ss.toArray).size:=by simpa using h
  have:=get_flatK kCells 2 ss.toArray t (by simpa using h);rw [getElem!_pos _ t h'] at this;rw [Array.getElem?_toList,Array.getElem?_eq_getElem h',this]
 ·rw [List.getElem?_eq_none (by simp;omega),List.getElem?_eq_none (by rw [kRow_len];omega)]
theorem heap_sortedK {w:World}{g n:Nat}{os:Array Obj}{cur:Array Value}{e:TypeId}{fr:Nat×Nat}(d:Array Value)(hb:w.heap[g]? =some (.cells cur e fr)):
  (grow (putRow id (Sort.ahead w n) g 0 d) os).heap[g]? =some (.cells (putCells id 0 d cur) e fr):=by
 have hg:g<w.heap.size:=(Array.getElem?_eq_some_iff.1 hb).1;rw [heap_grow_old _ _ (by simpa [putRow,mapBlock,Sort.ahead] using hg)];simp [putRow,mapBlock,Sort.ahead,Array.getElem?_modify,hb,onCells]
theorem grownBy_sortedK {w:World}{g n:Nat}{os:Array Obj}(d:Array Value):w.grownBy (grow (putRow id (Sort.ahead w n) g 0 d) os) (some g):=by
 refine⟨rfl,rfl,rfl,by simp [grow,putRow,mapBlock,Sort.ahead],fun k hk hne=> ?_⟩;rw [heap_grow_old _ _ (by simpa [putRow,mapBlock,Sort.ahead] using hk)];have:g≠k:=fun e=>hne (by rw [e]);simp [putRow,mapBlock,Sort.ahead,Array.getElem?_modify,this]
theorem take_putV (cur:Array Value)(ts:List Value)(h:ts.length<=cur.size):(putCells id 0 ts.toArray cur).toList.take ts.length=ts:=by
 apply List.ext_getElem?;intro j;by_cases hj:j<ts.length
 ·rw [List.getElem?_take_of_lt hj,Array.getElem?_toList];simp [putCells,hj,show j<cur.size by omega]
 ·rw [List.getElem?_take_eq_none (by omega),List.getElem?_eq_none (by omega)]
theorem eg_cmpK:∀args w,(callFunc 67 args).run Tryz.prog w=.ok (.enter 67 args) w:=enters_of Tryz.func67 (by kernel_rfl) rfl
theorem cmpLaysK (blk off size:Nat)(w:World):CmpLays Tryz.prog 67 #[] kCells 2 cmpK blk off size w:=fun m os dk _ x y=>
 (compareKeysW x y _).mono fun e w' ⟨he,hb⟩=>⟨he,hb.grown⟩
theorem sortFuncK (B blk cap:Nat)(ss:List Ky)(w:World)(ho:w.ownsRow B 114 2 (.slice (some ⟨blk,0,none⟩) ss.length cap) ss.length (kRow ss))(hsz:ss.length<=1048576):
  Calls Tryz.prog 97 #[.slice (some ⟨blk,0,none⟩) ss.length cap,.func (.func 67) #[] #[]] w fun e w'=>e=.returned (.tuple #[])/\∃ts:List Ky,ts.Perm ss/\ SortedIn (ltOf cmpK) 0 ts.length ts.toArray/\ w'.ownsRow B 114 2 (.slice (some ⟨blk,0,none⟩) ss.length cap) ss.length (kRow ts)/\ w.grownBy w' (some blk):=by
 rcases ho.2 with ⟨h0,_⟩|⟨g',Hg,Hf,hv,Hb,hb,h1,h2,h3,h4⟩
 ·cases h0
 cases hv;have Hd:blk<w.heap.size:=(Array.getElem?_eq_some_iff.1 hb).1;have hH:HoldsK kCells 2 w blk 0 ss.toArray:=by
  intro t ht;have He:t<ss.length*2:=by simpa using ht
  refine⟨?_,by simp [World.frozen?,hb]⟩;have e1:(Hf.toList.take (ss.length*2))[t]? =(kRow ss)[t]? :=by rw [h4]
  rw [List.getElem?_take_of_lt He,kRow_get ss t He] at e1;have e2:=get_flatK kCells 2 ss.toArray t (by simpa using He);rw [e2];simp only [World.cell?,hb,Nat.zero_add,Option.isSome_none,Bool.false_eq_true,if_false];rw [<- Array.getElem?_toList,e1];rfl
 have Ha:=AnyQ.slices_SortFunc Tryz.sortK 2 Tryz.isAgg114 Tryz.sizeOf114 kCells kCells_len (fun x v hv=>by simp [kCells] at hv;rcases hv with rfl|rfl<;>rfl) cmpK CmpT.key.swo 67 #[] blk 0 cap ss.toArray w eg_cmpK (cmpLaysK blk 0 _ w) hH Hd (by simp;omega);change Calls Tryz.prog 97 _ _ _ at Ha;simp only [List.size_toArray] at Ha;refine Ha.mono ?_;rintro e w' ⟨rfl,d',n,os,hp,hs,rfl⟩;have hd:d'.size=ss.length:=by simpa using hp.1
 have Hc:d'.toList.Perm ss:=by
  have:=hp.2.2;have e1:d'.extract 0 ss.length=d':=by rw [<- hd];simp
  have e2:ss.toArray.extract 0 ss.length=ss.toArray:=by simp
  rw [e1,e2] at this;simpa using this
 refine⟨rfl,d'.toList,Hc,by simpa [hd] using hs,⟨by rw [kRow_len];simp [hd],.inr ⟨blk,cap,_,rfl,Hb,heap_sortedK _ hb,h1,h2,by simp [putCells,h3],?_⟩⟩,grownBy_sortedK _⟩;have e3:flatK kCells 2 d'=(kRow d'.toList).toArray:=by
  have:=flat_kRow d'.toList;simp only [Array.toArray_toList] at this;rw [<- this]
 rw [e3];have:=take_putV Hf (kRow d'.toList) (by rw [kRow_len];simp [hd];omega);rw [kRow_len] at this;simpa [hd] using this
theorem nodup_keys {ts:List Ky}(h:ts.Nodup)(hs:SortedIn (ltOf cmpK) 0 ts.length ts.toArray):ts.Pairwise (fun x y=>cmpK x y<0):=by
 have:=CmpT.key.rises (d:=ts.toArray) (by simpa using hs) (by simpa using h);simpa using this
theorem sortedFuncK (g:Nat)(lb:Array Value)(eg:∀args w,(callFunc g args).run Tryz.prog w=.ok (.enter g args) w)(N:Nat)(f:Ky ->Option (Nat×Nat))(w:World)(hN:N<=1048576)(hseq:SeqGives Fence.wide 4 Tryz.prog g lb keyV (KeysF f) N w):
  Calls Tryz.prog 65 #[.func (.func g) #[] lb,.func (.func 67) #[] #[]] w fun e w'=>∃(v:Value) (ts:List Ky),e=.returned v/\ ts.Pairwise (fun x y=>cmpK x y<0)/\ (∀x,x∈ts↔f x≠none)/\ ts.length<=1048576/\ w'.ownsRow w.heap.size 114 2 v ts.length (kRow ts)/\ RowKit.Below w.heap.size w w':=by
 have HC:=hid (collectK g lb eg _ N (by unfold maxLen;omega) (by omega) w (SeqGives.bounded hseq));go_enter Tryz.func65,Tryz.ntmps65;go_wp2_with fail;refine HC.out.mono ?_;rintro e w1 ⟨v,ss,rfl,⟨hK,Hi⟩,Ha,Hd,hb⟩;rcases Ha.2 with ⟨rfl,hz⟩|⟨gb,Hh,Hk,rfl,Hc,Hl,r1,r2,r3,r4⟩
 ·have Hj:ss=[]:=List.eq_nil_of_length_eq_zero hz;subst Hj;have HB:=hid hb;have HK:=hid hK;have HR:=hid Ha;have Hb:=AnyF.slices_SortFunc_none Tryz.sortK none 0 (.func (.func 67) #[] #[]) w1;change Calls Tryz.prog 97 _ _ _ at Hb;have HS:=hid Hb;clear hb hK Ha HC Hb;go_wp2_with fail;refine HS.out.mono ?_;rintro e w2 ⟨rfl,rfl⟩;clear HS;go_wp2_with fail;go_ret;exact⟨_,[],rfl,List.Pairwise.nil,fun x=>HK.out.2 x,by simp,HR.out,HB.out⟩
 ·have HS:=hid (sortFuncK w.heap.size gb Hh ss w1 Ha (by omega));have HB:=hid hb;have HK:=hid hK;have HL:Hid (ss.length<=1048576):=hid (by omega);have Hg:=hid Hc;clear hb hK Ha HC Hd;go_wp2_with fail;refine HS.out.mono ?_;rintro e w2 ⟨rfl,ts,hp,hs,ho,hg⟩;have HO:=hid ho;have He:=hid (HB.out.grown hg HB.out.size (fun k e=>by injection e with e;have:=Hg.out;omega));have HP:=hid hp;have Hf:=hid hs;clear ho hg hp hs HS;go_wp2_with fail;go_ret;refine⟨_,ts,rfl,nodup_keys (HP.out.nodup_iff.2 HK.out.1) Hf.out,fun x=>by rw [HP.out.mem_iff];exact HK.out.2 x,by rw [HP.out.length_eq];exact HL.out,?_,He.out⟩;rw [HP.out.length_eq];exact HO.out
theorem keysNilK (n l Bm:Nat)(J:List Ky ->World ->Prop)(W:World)(hJ:AbidesFrom W.heap.size J)(hm:W.cell? ⟨Bm,0,none⟩=some (.map none))(h0:J [] W):
  CallsIn Fence.wide n Tryz.prog 98 #[.func (.yield l) #[] #[],.pointer (some ⟨Bm,0,none⟩)] W fun e W'=>(∃v,e=.returned v)/\∃ss:List Ky,KeysF (fun _=>(none:Option (Nat×Nat))) ss/\ J ss W':=by
 have Hb:=run_range_nilMap (P:=Tryz.prog) W 62 114 65 Tryz.underlying62;have Ha:∀ty,(Instr.next (.pointer (some ⟨W.heap.size,0,none⟩)) false ty).run Tryz.prog (W.alloc (.mapIter none 0 #[] 0))=_:=fun ty=>run_next_nilMap _ ty 0 0 #[];refine callsIn_of_wp Tryz.func98 rfl trivial ?_ rfl;simp only [Tryz.ntmps98,List.size_toArray,List.length_cons,List.length_nil,Nat.reduceAdd,Nat.reduceSub,Array.replicate_succ,Array.replicate_zero,List.push_toArray,List.append_toArray,List.nil_append,List.cons_append];gi_wp2
 refine wpIn_loop_rounds 1 ?_;rw [roundsIn_succ];gi_wp2
 go_end0;exact⟨⟨_,rfl⟩,[],⟨List.nodup_nil,fun x=>by simp⟩,hJ [] W _ none h0 (World.grownBy_alloc W _ none) (fun r e=>by cases e)⟩
theorem keysFnK (mb:Option Nat)(w:World):Calls Tryz.prog 66 #[.map mb] w fun e w'=>e=.returned (.func (.func 98) #[] #[.pointer (some ⟨w.heap.size,0,none⟩)])/\ w'=w.alloc (.cells #[.map mb] 62):=by
 go_enter Tryz.func66,Tryz.ntmps66;go_wp2_with fail;go_ret;exact⟨rfl,rfl⟩
def kidsF (N:List Ky ->Option (Nat×Nat))(p:List Ky)(y:Ky):Option (Nat×Nat):=N (p++[y])
theorem sortedKeysC (B c:Nat)(N:List Ky ->Option (Nat×Nat))(M:List Ky ->Dt ->Option ByteArray)(p:List Ky)(w:World)(hT:Tre w B N M c)(hc:c<=1048576):
  Calls Tryz.prog 41 #[.agg #[.map (mF (N p)),.map (mS (N p))]] w fun e w'=>∃(v:Value) (ts:List Ky),e=.returned v/\ ts.Pairwise (fun x y=>cmpK x y<0)/\ (∀x,x∈ts↔kidsF N p x≠none)/\ ts.length<=1048576/\ w'.ownsRow w.heap.size 114 2 v ts.length (kRow ts)/\ RowKit.Below w.heap.size w w':=by
 obtain⟨u0,Hc⟩:∃u,mF (N p)=u:=⟨_,rfl⟩;obtain⟨u1,He⟩:∃u,mS (N p)=u:=⟨_,rfl⟩;rw [Hc,He];have HG:Hid (∀w1,RowKit.Below w.heap.size w w1 ->∀Bm,Bm<w1.heap.size ->w1.cell? ⟨Bm,0,none⟩=some (.map u0) ->∃n,n<=1048576/\ SeqGives Fence.wide 4 Tryz.prog 98 #[.pointer (some ⟨Bm,0,none⟩)] keyV (KeysF (kidsF N p)) n w1):=hid (fun w1 b1 Bm hBm hm=>by
  cases e:N p with
  | some x=>
   obtain⟨D,hF⟩:=(hT.below b1).kids p x e;have:u0=some x.1:=by rw [<- Hc,e];rfl
   rw [this] at hm;exact⟨Maps.size D,Nat.le_trans hF.own.size_le hc,keysGivesK Bm x.1 c _ D w1 hBm hm hF⟩
  | none=>
   have:u0=none:=by rw [<- Hc,e];rfl
   rw [this] at hm;refine⟨0,by omega,fun l J W hW hJ hY h0=> ?_⟩;have e2:kidsF N p=fun _=>none:=funext fun y=>hT.up p y e;rw [e2];exact keysNilK 4 l Bm J W hJ ((hW.cell (p:=⟨Bm,0,none⟩) hBm).trans hm) h0)
 obtain⟨W,hW⟩:∃W,w.alloc (.cells #[.map u0,.map u1] 65)=W:=⟨_,rfl⟩;have b0:RowKit.Below w.heap.size w W:=by rw [<- hW];exact zO _ _
 have X0:Bx2 W w.heap.size (.map u0) (.map u1):=by rw [<- hW];exact Bx2.made _ _ _ _
 have k0:=X0.c0;have HB:=hid b0;clear hT b0 X0 Hc He;go_enter Tryz.func41,Tryz.ntmps41;go_wp2_with fail;try rw [hW]
 clear hW;refine(keysFnK u0 W).mono ?_;rintro e w1 ⟨rfl,Hd⟩;have b1:RowKit.Below W.heap.size W w1:=by rw [Hd];exact zO _ _
 have c1:w1.cell? ⟨W.heap.size,0,none⟩=some (.map u0):=by rw [Hd];simp
 have z1:W.heap.size<w1.heap.size:=by rw [Hd];simp
 have Hb:=hid (HB.out.trans (b1.mono HB.out.size));obtain⟨n,hn,Ha⟩:=HG.out w1 Hb.out W.heap.size z1 c1;have HS:=hid (sortedFuncK _ _ (enters_of Tryz.func98 (by kernel_rfl) rfl) n (kidsF N p) w1 hn Ha);clear Ha Hd b1 c1 z1 k0 HG;go_wp2_with fail;refine HS.out.mono ?_;rintro e w2 ⟨v,ts,rfl,hp,hm,hl,ho,hb⟩;have HX:=hid (And.intro hp (And.intro hm hl));have Hf:=hid (Hb.out.trans (hb.mono Hb.out.size));have HO:Hid (w2.ownsRow w.heap.size 114 2 v ts.length (kRow ts)):=hid (by
  obtain⟨q1,q2⟩:=ho;refine⟨q1,?_⟩;rcases q2 with q2|⟨g,Hg,Hh,e,Hi,r⟩
  ·exact .inl q2
  ·exact .inr ⟨g,Hg,Hh,e,Nat.le_trans Hb.out.size Hi,r⟩)
 clear hp hm hl ho hb HS;go_wp2_with fail;go_ret;exact⟨v,ts,rfl,HX.out.1,HX.out.2.1,HX.out.2.2,HO.out,Hf.out⟩
end Go.Proofs.YtfidfeilljlbiaaGreat
namespace Go.Proofs.YtfidfeilljlbiaaGreat.Ds
open Go.ChangeShapes Go.WideShapes Go.ChangeAt Go.RowKit Go.Maps Go.Sort Go.Lib Go.Shelf
theorem keysItK (n l Bm b nn:Nat)(f:Dt ->Option ByteArray)(D0:DataW Value)(J:List Dt ->World ->Prop)(hn:1<=n)
  (hY:∀pre x W,J pre W ->pre.length<Maps.size D0 ->YieldAt Fence.wide (n - 1) Tryz.prog l #[dtV x] W fun e W'=>e=.returned (.bool true)/\ J (pre++[x]) W'/\ KeepsWalks W W')
  (W:World) (hJ:AbidesFrom W.heap.size J) (hm:W.cell? ⟨Bm,0,none⟩=some (.map (some b))) (hF:FM W 58 dtV mrkV b nn f D0) (h0:J [] W):
  CallsIn Fence.wide n Tryz.prog 128 #[.func (.yield l) #[] #[],.pointer (some ⟨Bm,0,none⟩)] W fun e W'=>(∃v,e=.returned v)/\∃ss,KeysF f ss/\ J ss W':=by
 have Hi:=hF.own;have HF:=hid hF;have HJ:=hid hJ;have HY:=hid hY;clear hF hJ hY;refine callsIn_of_wp Tryz.func128 rfl trivial ?_ rfl;simp only [Tryz.ntmps128,List.size_toArray,List.length_cons,List.length_nil,Nat.reduceAdd,Nat.reduceSub,Array.replicate_succ,Array.replicate_zero,List.push_toArray,List.append_toArray,List.nil_append,List.cons_append];gi_wp2_with (first
  | (gi_at_range;refine wpListIn_range_own _ rfl _ 63 rfl 58 74 dotKeyed Tryz.underlying63 _ b nn _ rfl Hi ?_;intro w0 Hk Hv H4)
  | gi_in)
 try go_frame
 gi_loopw [3] (fun _ wr=>∃(Ha:Lit ->Bool) (Hf:Nat) (ss:List Dt),wr.ranges Tryz.prog 58 allR b W.heap.size nn D0 Ha Hf/\ ss.length+Hf<=Maps.size D0/\ CollF 58 dtV f Ha ss/\ J ss wr)
  (fun _ wr=>wr.rangeLeft b W.heap.size)
 case atStart=>exact⟨_,_,[],Hk,by simp,CollF.start HF.out,HJ.out [] W w0 none h0 Hv (fun r e=>by cases e)⟩
 case round=>
  obtain⟨Ha,Hf,ss,Hj,Ho,hC,Hn⟩:=hrel;have HC:=hid hC;have Hm:=hid Ho;clear hC Ho;gi_wp2_with (first
   | (gi_at_next;refine wpListIn_next_ranges _ rfl _ rfl 58 dotKeyed allR dtV id (fun key kl hk=>keyOf_dot hk) (fun v _ _=>⟨v,rfl⟩) b W.heap.size nn _ _ _ rfl Hj ?_ ?_)
   | gi_in)
  ·intro H3 Hy;gi_wp2
   go_end0;exact⟨⟨_,rfl⟩,ss,HC.out.done HF.out Hy,Hn⟩
  ·intro xs xk c kl yd yp w2 Hg Hh Hz hv Ht Hl H0 Hw H1 Hu;have Hq:J ss w2:=HJ.out ss wr w2 (some W.heap.size) Hn Hw (fun r e=>by cases e;exact⟨Nat.le_refl _,Hj.iter_walk⟩);obtain⟨w3,Hd⟩:∃w3,w2.alloc (.cells #[.int .i64 xs,.int .i64 xk] 58)=w3:=⟨_,rfl⟩;have Hr:J ss w3:=by rw [<- Hd];exact HJ.out ss w2 _ none Hq (World.grownBy_alloc w2 _ none) (fun r e=>by cases e)
   obtain⟨fn,H2,He,Hp,hy,hR⟩:=HY.out ss (xs,xk) w3 Hr (by have:=Hm.out;omega);have K3:Bx2 w3 w2.heap.size (.int .i64 xs) (.int .i64 xk):=by rw [<- Hd];exact Bx2.made _ _ _ _
   have Hb:=Hl.alloc (.cells #[.int .i64 xs,.int .i64 xk] 58);rw [Hd] at Hb;have q0:=K3.c0;have q1:=K3.c1;clear H1 K3;dsimp only [dtV,dotV] at Hu hy hR ⊢;gi_wp2
   try rw [Hd]
   refine hR.mono ?_;rintro e W3 ⟨rfl,Hs,Hx⟩;gi_wp2
   have Hc:=Hb.of_walks Hx;go_roundw;case rel=>exact⟨_,Hg,ss++[(xs,xk)],Hc,by have:=Hm.out;simp;omega,HC.out.step HF.out dotKeyed (fun _ _=>dtV_inj) Hh Hz Ht,Hs⟩
   case measure=>rw [Hc.left_eq,Hj.left_eq];exact H0
def kCells (x:Dt):List Value:=[.int .i64 x.1,.int .i64 x.2]
def kRow (ss:List Dt):List Value:=ss.flatMap kCells
theorem kRow_snoc (ss:List Dt)(x:Dt):kRow (ss++[x])=kRow ss++kCells x:=by simp [kRow]
theorem infoDt:(Tryz.prog.info? 58).map (fun i=>(i.zero,i.size,i.bytes))=some (some (.agg #[.int .i64 0,.int .i64 0]),2,16):=by kernel_rfl
def apA:Code:=(Code.region 2 #[{dst:=some 5,op:=Op.alloc 58,type:=0,pos:= "iter.go:51",after:=#[],guard:=none},{dst:=none,op:=Op.store 58 (Operand.tmp 5) (Operand.tmp 7),type:=0,pos:= "iter.go:51",after:=#[{on:=0,ground:=Ground.data},{on:=0,ground:=Ground.phase}],guard:=none}] false)
def apB:Code:=(Code.block 1 (Code.region 3 #[{dst:=some 8,op:=Op.load 103 (Operand.tmp 2),type:=103,pos:= "iter.go:52",after:=#[],guard:=none},{dst:=some 9,op:=Op.load 58 (Operand.tmp 5),type:=58,pos:= "iter.go:52",after:=#[],guard:=none},{dst:=some 10,op:=Op.buildSlice 103 1 #[(0,Operand.tmp 9)],type:=103,pos:= "iter.go:52",after:=#[{on:=1,ground:=Ground.data}],guard:=none},{dst:=some 11,op:=Op.call {callee:=Callee.builtin Builtin.append,args:=#[Operand.tmp 8,Operand.tmp 10],argTypes:=#[103,103]},type:=103,pos:= "iter.go:52",after:=#[{on:=0,ground:=Ground.data},{on:=2,ground:=Ground.data}],guard:=none},{dst:=none,op:=Op.store 103 (Operand.tmp 2) (Operand.tmp 11),type:=0,pos:= "iter.go:52",after:=#[{on:=3,ground:=Ground.data},{on:=3,ground:=Ground.chain},{on:=0,ground:=Ground.phase},{on:=1,ground:=Ground.phase},{on:=2,ground:=Ground.phase},{on:=3,ground:=Ground.phase}],guard:=none}] false))
def apRec (fn:FuncId)(sv:Value)(Bs D:Nat)(st:LoopState):Loop:=
 {state:=st,pending:=none,fn,tmps:=#[.slice none 0 0,sv,.pointer (some ⟨Bs,0,none⟩),undef,.slice none 0 0,undef,sv,undef,undef,undef,undef,undef,undef],params:=#[7],assign:=apA,body:=apB,defers:=D}
structure ApAt (w0:World)(fn:FuncId)(sv:Value)(Bs l D:Nat)(ss:List Dt)(W:World):Prop where
 box:∃v,W.heap[Bs]? =some (.cells #[v] 103 (0,0))/\ W.ownsRow w0.heap.size 58 2 v ss.length (kRow ss)/\ (v=.slice none 0 0↔ss=[])
 L:W.heap[l]? =some (.loop (apRec fn sv Bs D .ready))
 K:W.heap[D]? =some (.deferred (some []))
 below:RowKit.Below w0.heap.size w0 W
theorem ap_abides (w0:World)(fn:FuncId)(sv:Value)(Bs l D B:Nat)(hB:w0.heap.size<=B):AbidesFrom B (ApAt w0 fn sv Bs l D):=fun s W W' row h hg hrow=>by
 have Ha:∀r,row=some r ->∃o:Obj,W.heap[r]? =some o/\ o.isWalk=true:=fun r e=>(hrow r e).2;obtain⟨v,hv,hr,hn⟩:=h.box;exact⟨⟨v,(grownBy_keeps hg Ha hv rfl).trans hv,ownsRow_abides_a hr hg Ha,hn⟩,(grownBy_keeps hg Ha h.L rfl).trans h.L,(grownBy_keeps hg Ha h.K rfl).trans h.K,h.below.grown hg h.below.size (fun k e=>Nat.le_trans hB (hrow k e).1)⟩
theorem apYieldK (m:Nat)(w0:World)(fn:FuncId)(sv:Value)(Bs l D:Nat)(hBl:Bs≠l)(hDl:D≠l)(hDB:D≠Bs)(h0B:w0.heap.size<=Bs)(h0l:w0.heap.size<=l)
    (N:Nat) (hN:N<=maxLen) (hNb:N*16<=140737488355328) (ss:List Dt) (x:Dt) (W:World) (h:ApAt w0 fn sv Bs l D ss W) (hlen:ss.length<N):
    YieldAt Fence.wide m Tryz.prog l #[dtV x] W fun e W'=>e=.returned (.bool true)/\ ApAt w0 fn sv Bs l D (ss++[x]) W'/\ KeepsWalks W W':=by
  have H3:103≠58:=by decide
  obtain⟨i0,hi,Gd,Ge,Gf⟩:=info_parts infoDt;refine⟨fn,#[.slice none 0 0,sv,.pointer (some ⟨Bs,0,none⟩),undef,.slice none 0 0,undef,sv,dtV x,undef,undef,undef,undef,undef],apA,apB,by simpa [apRec] using run_yield (P:=Tryz.prog) (args:=#[dtV x]) h.L rfl,roundIn_of_wpIn trivial ?_⟩;obtain⟨xs,xk⟩:=x;obtain⟨W1,Ht⟩:∃W1,W.alloc (.cells #[.int .i64 xs,.int .i64 xk] 58)=W1:=⟨_,rfl⟩;have h1:ApAt w0 fn sv Bs l D ss W1:=by rw [<- Ht];exact ap_abides w0 fn sv Bs l D w0.heap.size zL ss W _ none h (World.grownBy_alloc W _ none) (fun r e=>by cases e)
  have H2:KeepsWalks W W1:=by rw [<- Ht];exact KeepsWalks.alloc _ _
  have X1:Bx2 W1 W.heap.size (.int .i64 xs) (.int .i64 xk):=by rw [<- Ht];exact Bx2.made _ _ _ _
  have Gk:l<W.heap.size:=(Array.getElem?_eq_some_iff.1 h.L).1;obtain⟨v,hv,Hh,_⟩:=h1.box;have hl:l<W1.heap.size:=(Array.getElem?_eq_some_iff.1 h1.L).1;have H6:=run_beginRound (P:=Tryz.prog) h1.L rfl;obtain⟨W2,Hg⟩:∃W2,W1.putObj l (.loop {apRec fn sv Bs D .ready with state:=.busy})=W2:=⟨_,rfl⟩;rw [Hg] at H6;have Hl:W1.grownBy W2 (some l):=by rw [<- Hg];exact grownBy_putObj_a _ _ _
  have H8:KeepsWalks W W2:=H2.trans (by rw [<- Hg];exact KeepsWalks.putObj _ h1.L rfl);have Hn:W2.heap[Bs]? =some (.cells #[v] 103 (0,0)):=by rw [<- Hg];exact(World.putObj_heap_other hBl).trans hv
  have Hr:W2.heap[D]? =some (.deferred (some [])):=by rw [<- Hg];exact(World.putObj_heap_other hDl).trans h1.K
  have Hs:W2.heap[l]? =some (.loop {apRec fn sv Bs D .ready with state:=.busy}):=by rw [<- Hg];exact World.putObj_heap_same hl
  have Hc:W2.ownsRow w0.heap.size 58 2 v ss.length (kRow ss):=Hh.kept Hl (ownsRow_ne_a Hh h1.L (fun cur e=>by cases e));have Hk:RowKit.Below w0.heap.size w0 W2:=h1.below.grown Hl h1.below.size (fun k e=>by cases e;exact h0l);have e2:W2.heap[W.heap.size]? =W1.heap[W.heap.size]? :=Hl.block _ X1.lt (fun e=>by injection e with e;omega);have q0:W2.cell? ⟨W.heap.size,0,none⟩=some (.int .i64 xs):=(World.cell?_of_block (a:=⟨W.heap.size,0,none⟩) e2).trans X1.c0;have q1:W2.cell? ⟨W.heap.size,1,none⟩=some (.int .i64 xk):=(World.cell?_of_block (a:=⟨W.heap.size,1,none⟩) e2).trans X1.c1;obtain⟨Gg,Gi⟩:=cell_of_box_a Hn;have Hp:Bs<W2.heap.size:=(Array.getElem?_eq_some_iff.1 Hn).1;have Ga:l<W2.heap.size:=(Array.getElem?_eq_some_iff.1 Hs).1;have Hq:D<W2.heap.size:=(Array.getElem?_eq_some_iff.1 Hr).1;have ne_of:∀{j:Nat} {o:Obj},W2.heap[j]? =some o ->(∀cur,o≠.cells cur 58 (0,0)) ->some j≠v.ownBlock:=fun hj hno=>by
    rcases ownsRow_ne_a Hc hj hno with e|e
    · rw [e];simp
    · exact fun e'=>e e'.symm
  have Ho:=hid Hc;have HZ:=hid Hk.size;clear Hg Hh Hc X1 e2 Hl H2;unfold apA;dsimp only [dtV,dotV];gi_wp2_with gi_round_op_a
  unfold apB;gi_wp2_with (first
    | (gi_at_builtin;refine wpListIn_append_own _ rfl _ _ 103 rfl w0.heap.size 58 i0 (.agg #[.int .i64 0,.int .i64 0]) 2 16 Tryz.underlying103 hi Gd Ge Gf rfl (by decide) _ _ _ rfl (Ho.out.alloc _) ⟨W2.heap.size,0,none⟩ 1 1 [.int .i64 xs,.int .i64 xk] rfl rfl (cell_two_new _ _ _ _) (by simp [Value.oneCell']) (by omega) (by omega) (by have:=HZ.out;simp;omega) ?_;intro v' w3 Hb H1 H4
       have Hv:w3.heap[Bs]? =some (.cells #[v] 103 (0,0)):=(H1.block Bs (by simp;omega) (ne_of Hn (fun cur e=>H3 (Obj.cells.inj e).2.1))).trans ((Below.heap_alloc _ _ Bs Hp).trans Hn)
       obtain⟨Gh,Gj⟩:=cell_of_box_a Hv
       obtain⟨g',Ha,Hd,rfl,Hu,H7,Gl,Gm,Gn,Go⟩:∃g' Ha Hd,v'=.slice (some ⟨g',0,none⟩) (ss.length+1) Ha/\ w0.heap.size<=g'/\ w3.heap[g']? =some (.cells Hd 58 (0,0))/\ ss.length+1<=Ha/\ Ha<=maxLen/\ Hd.size=Ha*2/\ Hd.toList.take ((ss.length+1)*2)=kRow ss++[.int .i64 xs,.int .i64 xk]:=by
         rcases Hb.2 with ⟨_,h0⟩|h'
         · exact absurd h0 (by omega)
         · exact h'
       have Hw:=hid Hb
       clear Hb
       try go_frame)
    | gi_round_op_a)
  have He:(W2.alloc (.cells #[.int .i64 xs,.int .i64 xk] 58)).grownBy w3 v.ownBlock:=H1;have Hy:w3.heap[l]? =some (.loop {apRec fn sv Bs D .ready with state:=.busy}):=(He.block l (by simp;omega) (ne_of Hs (fun cur e=>by cases e))).trans ((Below.heap_alloc _ _ l Ga).trans Hs);have Hx:w3.heap[D]? =some (.deferred (some [])):=(He.block D (by simp;omega) (ne_of Hr (fun cur e=>by cases e))).trans ((Below.heap_alloc _ _ D Hq).trans Hr);obtain⟨w4,Hi⟩:∃w4,w3.setCell ⟨Bs,0,none⟩ (.slice (some ⟨g',0,none⟩) (ss.length+1) Ha)=w4:=⟨_,rfl⟩;rw [Hi];have Hm:w3.grownBy w4 (some Bs):=by rw [<- Hi];exact grownBy_setCell0_a _ _ _
  have Gc:w4.heap[Bs]? =some (.cells #[.slice (some ⟨g',0,none⟩) (ss.length+1) Ha] 103 (0,0)):=by rw [<- Hi];exact heap_setCell_box_a _ Hv
  have Hj:w4.heap[l]? =some (.loop {apRec fn sv Bs D .ready with state:=.busy}):=(Hm.block l (Array.getElem?_eq_some_iff.1 Hy).1 (fun e=>hBl (by cases e;rfl))).trans Hy;have H5:w4.heap[D]? =some (.deferred (some [])):=(Hm.block D (Array.getElem?_eq_some_iff.1 Hx).1 (fun e=>hDB (by cases e;rfl))).trans Hx;have Hf:=Hw.out.kept Hm (ownsRow_ne_a Hw.out Hv (fun cur e=>H3 (Obj.cells.inj e).2.1));have Gb:l<w4.heap.size:=(Array.getElem?_eq_some_iff.1 Hj).1;have Hz:RowKit.Below w0.heap.size w0 w3:=(Hk.alloc Hk.size _).grown He (by have:=Hk.size;simp;omega) (fun k e=>(Ho.out.lt k e).1);have H0:RowKit.Below w0.heap.size w0 w4:=Hz.grown Hm Hz.size (fun k e=>by cases e;exact h0B);have H9:KeepsWalks W w4:=((H8.trans (KeepsWalks.alloc _ _)).trans (KeepsWalks.of_grownBy He (ownsRow_not_walk_a (Ho.out.alloc _)))).trans (by rw [<- Hi];exact KeepsWalks.setCell _ _ _);clear Hi;refine⟨_,_,run_endRound none Hj,rfl,⟨⟨_,(World.putObj_heap_other hBl).trans Gc,?_,by simp⟩,World.putObj_heap_same Gb,(World.putObj_heap_other hDl).trans H5,H0.grown (grownBy_putObj_a _ _ _) H0.size (fun k e=>by cases e;exact h0l)⟩,H9.trans (KeepsWalks.putObj _ Hj rfl)⟩;have:=Hf.kept (grownBy_putObj_a w4 l (.loop {{apRec fn sv Bs D .ready with state:=.busy} with state:=if (none:Option Code).isNone then .ready else .done,pending:=none})) (ownsRow_ne_a Hf Hj (fun cur e=>by cases e));rw [kRow_snoc];simpa [kCells] using this
theorem appendSeqK (n:Nat)(hn:2<=n)(g:Nat)(lb:Array Value)(eg:∀args w,(callFunc g args).run Tryz.prog w=.ok (.enter g args) w)
  (S:List Dt ->Prop) (N:Nat) (hN:N<=maxLen) (hNb:N*16<=140737488355328) (w:World) (hseq:SeqGives Fence.wide (n - 1) Tryz.prog g lb dtV S N w):
  CallsIn Fence.wide n Tryz.prog 127 #[.slice none 0 0,.func (.func g) #[] lb] w fun e w'=>∃(v:Value) (ss:List Dt),e=.returned v/\ S ss/\ w'.ownsRow w.heap.size 58 2 v ss.length (kRow ss)/\ (v=.slice none 0 0↔ss=[])/\ RowKit.Below w.heap.size w w':=by
 have Hu:103≠58:=by decide
 refine callsIn_of_wp_marks Tryz.func127 rfl trivial ?_ rfl;simp only [Tryz.ntmps127,List.size_toArray,List.length_cons,List.length_nil,Nat.reduceAdd,Nat.reduceSub,Array.replicate_succ,Array.replicate_zero,List.push_toArray,List.append_toArray,List.nil_append,List.cons_append];gi_wp2
 refine wpIn_rangeFunc ?_;intro fn Ht;obtain⟨W0,Hf⟩:∃W0,w.alloc (.cells #[.slice none 0 0] 103)=W0:=⟨_,rfl⟩;have Hn:W0.heap.size=w.heap.size+1:=by rw [<- Hf];simp
 have Ho:W0.heap[w.heap.size]? =some (.cells #[.slice none 0 0] 103 (0,0)):=by rw [<- Hf];exact World.alloc_heap_new w _
 have Hg:RowKit.Below w.heap.size w W0:=by rw [<- Hf];exact(RowKit.Below.refl _ w).alloc zL _
 rw [Hf];obtain⟨W1,Hc⟩:∃W1,(W0.alloc (.deferred (some []))).alloc (.loop (apRec fn (.func (.func g) #[] lb) w.heap.size W0.heap.size .ready))=W1:=⟨_,rfl⟩;have Hj:∀k,k<W0.heap.size ->W1.heap[k]? =W0.heap[k]? :=fun k hk=>by
  rw [<- Hc];exact(Below.heap_alloc _ _ k (by simp;omega)).trans (Below.heap_alloc _ _ k hk)
 have Hh:RowKit.Below w.heap.size w W1:=by rw [<- Hc];exact(Hg.alloc Hg.size _).alloc (by have:=Hg.size;simp;omega) _
 have hM:ApAt w fn (.func (.func g) #[] lb) w.heap.size (W0.heap.size+1) W0.heap.size [] W1:=
  ⟨⟨_,(Hj w.heap.size (by omega)).trans Ho,⟨rfl,.inl ⟨rfl,rfl⟩⟩,by simp⟩,
   by rw [<- Hc];have:=World.alloc_heap_new (W0.alloc (.deferred (some []))) (.loop (apRec fn (.func (.func g) #[] lb) w.heap.size W0.heap.size .ready));rwa [World.size_alloc] at this,
   by rw [<- Hc];exact(Below.heap_alloc _ _ _ (by simp)).trans (World.alloc_heap_new W0 _),Hh⟩
 refine⟨W0.heap.size+1,[{target:=.collected W0.heap.size,args:=#[]}],W1,{target:=.fn (.func g) lb,args:=#[.func (.yield (W0.heap.size+1)) #[] #[]]},W1,g,
  #[.func (.yield (W0.heap.size+1)) #[] #[]]++lb,W1,?_,?_,?_,?_,fun _=>by omega,?_⟩
 ·rw [<- Hc];exact run_enterLoop_outer _ _ _ _ _
 ·simp [resolve,go_sem]
 ·intro f' Hr;trivial
 ·simp [invoke,go_sem,eg]
 ·refine(hseq (W0.heap.size+1) (ApAt w fn (.func (.func g) #[] lb) w.heap.size (W0.heap.size+1) W0.heap.size) W1 Hh (ap_abides _ _ _ _ _ _ _ Hh.size)
   (fun pre x W hJ hl=>apYieldK (n - 1 - 1) w fn _ w.heap.size (W0.heap.size+1) W0.heap.size (by omega) (by omega) (by omega) zL (by omega) N hN hNb pre x W hJ hl) hM).mono ?_
  rintro e W2 ⟨⟨v0,rfl⟩,ss,hS,h2⟩;obtain⟨v,hv,Hb,Hi⟩:=h2.box;have He:=run_endLoop (P:=Tryz.prog) h2.L (by simp [apRec]);obtain⟨W3,Hd⟩:∃W3,W2.putObj (W0.heap.size+1) (.loop {apRec fn (.func (.func g) #[] lb) w.heap.size W0.heap.size .ready with state:=.exhausted})=W3:=⟨_,rfl⟩;rw [Hd] at He;have Hm:W2.grownBy W3 (some (W0.heap.size+1)):=by rw [<- Hd];exact grownBy_putObj_a _ _ _
  have Hp:W3.heap[w.heap.size]? =some (.cells #[v] 103 (0,0)):=by rw [<- Hd];exact(World.putObj_heap_other (by omega)).trans hv
  have Hk:W3.heap[W0.heap.size]? =some (.deferred (some [])):=by rw [<- Hd];exact(World.putObj_heap_other (by omega)).trans h2.K
  have Ha:=Hb.kept Hm (ownsRow_ne_a Hb h2.L (fun cur e=>by cases e));have Hl:RowKit.Below w.heap.size w W3:=h2.below.grown Hm h2.below.size (fun k e=>by cases e;omega);obtain⟨Hq,Hs⟩:=cell_of_box_a Hp;have HR:=hid Ha;clear Hd Hb Ha;refine⟨none,W3,He,?_⟩;gi_wp2
  rw [<- Hn];refine⟨by simp,.inl ⟨_,_,rfl,run_takeDeferred Hk,?_⟩⟩;exact⟨_,results_tmp rfl _ _ _,v,ss,rfl,hS,HR.out.kept (grownBy_putObj_a _ _ _) (ownsRow_ne_a HR.out Hk (fun cur e=>by cases e)),Hi,Hl.grown (grownBy_putObj_a _ _ _) Hl.size (fun k e=>by cases e;omega)⟩
theorem collectK (g:Nat)(lb:Array Value)(eg:∀args w,(callFunc g args).run Tryz.prog w=.ok (.enter g args) w)
  (S:List Dt ->Prop) (N:Nat) (hN:N<=maxLen) (hNb:N*16<=140737488355328) (w:World) (hseq:SeqGives Fence.wide 4 Tryz.prog g lb dtV S N w):
  Calls Tryz.prog 103 #[.func (.func g) #[] lb] w fun e w'=>∃(v:Value) (ss:List Dt),e=.returned v/\ S ss/\ w'.ownsRow w.heap.size 58 2 v ss.length (kRow ss)/\ (v=.slice none 0 0↔ss=[])/\ RowKit.Below w.heap.size w w':=by
 have HA:=hid ((callsIn_wide (n:=5)).1 (appendSeqK 5 (by omega) g lb eg S N hN hNb w hseq));go_enter Tryz.func103,Tryz.ntmps103;go_wp2_with fail;refine HA.out.mono ?_;rintro e w' ⟨v,ss,rfl,hS,Hb,Ha,hb⟩;have HX:=hid (And.intro hS (And.intro Hb (And.intro Ha hb)));clear hS Hb Ha hb HA;go_wp2_with fail;go_ret;exact⟨v,ss,rfl,HX.out.1,HX.out.2.1,HX.out.2.2.1,HX.out.2.2.2⟩
theorem keysGivesK (Bm b nn:Nat)(f:Dt ->Option ByteArray)(D0:DataW Value)(w:World)(hBm:Bm<w.heap.size)(hm:w.cell? ⟨Bm,0,none⟩=some (.map (some b)))(hF:FM w 58 dtV mrkV b nn f D0):
  SeqGives Fence.wide 4 Tryz.prog 128 #[.pointer (some ⟨Bm,0,none⟩)] dtV (KeysF f) (Maps.size D0) w:=fun l J W hW hJ hY h0=>by
 have Ha:FM W 58 dtV mrkV b nn f D0:=⟨own_same hF.own (hW.block b hF.own.lt),hF.at',hF.cov,hF.ok⟩;exact keysItK 4 l Bm b nn f D0 J (by omega) hY W hJ ((hW.cell (p:=⟨Bm,0,none⟩) hBm).trans hm) Ha h0
theorem compareKeysW (x y:Dt)(w:World):Calls Tryz.prog 78 #[.agg #[.int .i64 x.1,.int .i64 x.2],.agg #[.int .i64 y.1,.int .i64 y.2]] w fun e w'=>e=.returned (.int .i64 (cmpDt x y))/\ Bw w w':=by
 obtain⟨s,k⟩:=x;obtain⟨s',k'⟩:=y;dsimp only;obtain⟨W,hW⟩:∃W,(w.alloc (.cells #[.int .i64 s,.int .i64 k] 58)).alloc (.cells #[.int .i64 s',.int .i64 k'] 58)=W:=⟨_,rfl⟩;have b0:Bw w W:=by rw [<- hW];exact⟨below2 _ _ _,Nat.le_refl _⟩
 have X0:Bx2 W w.heap.size (.int .i64 s) (.int .i64 k):=by rw [<- hW];exact(Bx2.made w _ _ _).allocs _
 have X1:Bx2 W (w.heap.size+1) (.int .i64 s') (.int .i64 k'):=by rw [<- hW];simpa using Bx2.made (w.alloc (.cells #[.int .i64 s,.int .i64 k] 58)) (.int .i64 s') (.int .i64 k') 58
 have Ha:=hid b0;have Hc:=hid X0;have Hd:=hid X1;clear b0 X0 X1;go_enter Tryz.func78,Tryz.ntmps78;go_wp2_with fail;try rw [hW]
 clear hW;have Hb:Hid (∀w',Bw W w' ->(Bw W w'/\ w'.cell? ⟨w.heap.size,0,none⟩=some (.int .i64 s)/\ w'.cell? ⟨w.heap.size,1,none⟩=some (.int .i64 k)/\ w'.cell? ⟨w.heap.size+1,0,none⟩=some (.int .i64 s')/\ w'.cell? ⟨w.heap.size+1,1,none⟩=some (.int .i64 k'))):=hid (fun w' hB=>by
  have x0:=Hc.out.below hB.1 Hc.out.lt;have x1:=Hd.out.below hB.1 Hd.out.lt;exact⟨hB,x0.c0,x0.c1,x1.c0,x1.c1⟩)
 refine zR (S:=fun w'=>Bw W w'/\ w'.cell? ⟨w.heap.size,0,none⟩=some (.int .i64 s)/\ w'.cell? ⟨w.heap.size,1,none⟩=some (.int .i64 k)/\ w'.cell? ⟨w.heap.size+1,0,none⟩=some (.int .i64 s')/\ w'.cell? ⟨w.heap.size+1,1,none⟩=some (.int .i64 k')) (Hb.out _ ⟨zI.drew,Nat.le_succ _⟩) (fun qh=> ?_);refine tZ 0 5 ?_;refine tZ 1 6 ?_;refine tZ 2 7 ?_;refine tZ 3 8 ?_;refine tZ 5 10 ?_;refine tZ 6 11 ?_;refine tZ 7 12 ?_;refine tZ 8 13 ?_;refine cZ 4 ?_;intro K hK;go_simp;refine(compare s s' _).mono ?_;rintro e w1 ⟨rfl,rfl⟩;refine hK.out _ _ qh (fun qh=> ?_);clear hK K;try simp only [zP]
 refine cZ 9 ?_;intro K hK;go_simp;refine(compare k k' _).mono ?_;rintro e w2 ⟨rfl,rfl⟩;refine hK.out _ _ qh (fun qh=> ?_);clear hK K;try simp only [zP]
 refine cZ 10 ?_;intro K hK;go_simp;have hB:Bw W (W.drew.alloc (.cells #[.int .i64 (cmpI s s'),.int .i64 (cmpI k k')] 3)):=⟨qh.1.1.alloc qh.1.1.size _,qh.1.2⟩;refine hK.out _ _ (Hb.out _ hB) (fun qh=> ?_);clear hK K;try simp only [zP]
 refine cZ 11 ?_;intro K hK;go_simp;refine(cmpOr _ 2 2 (fun i=>if i=0 then cmpI s s' else cmpI k k') _ (by omega) (fun i hi=> ?_)).mono ?_
 ·match i,hi with
  | 0,_=>simp
  | 1,_=>simp
 rintro e w3 ⟨rfl,rfl⟩;refine hK.out _ _ qh (fun qh=> ?_);clear hK K;try simp only [zP]
 refine tZ 12 4 ?_;refine zD ?_;have HB:Hid (Bw w (W.drew.alloc (.cells #[.int .i64 (cmpI s s'),.int .i64 (cmpI k k')] 3))):=hid ⟨Ha.out.1.trans (qh.1.1.mono Ha.out.1.size),Nat.le_trans Ha.out.2 qh.1.2⟩;clear qh hB;go_wp2_with fail;go_ret;exact⟨ret_i nz2,HB.out⟩
theorem kCells_len (x:Dt):(kCells x).length=2:=rfl
theorem kRow_len (ss:List Dt):(kRow ss).length=ss.length*2:=by
 induction ss with
 | nil=>rfl
 | cons x r ih=>simp only [kRow,List.flatMap_cons,List.length_append,List.length_cons] at*;rw [ih,kCells_len];omega
theorem kRow_get:∀(ss:List Dt) (t:Nat),t<ss.length*2 ->(kRow ss)[t]? =some ((kCells ss.toArray[t/2]!)[t%2]!)
 | [],t,h=>by simp at h
 | x::r,t,h=>by
  rcases Nat.lt_or_ge t 2 with h2|h2
  ·have:t=0 \/t=1:=by omega
   rcases this with rfl|rfl<;>simp [kRow,kCells]
  ·obtain⟨u,rfl⟩:∃u,t=u+2:=⟨t - 2,by omega⟩;have ih:=kRow_get r u (by simp at h;omega);have e1:(u+2)/2=u/2+1:=by omega
   have e2:(u+2)%2=u%2:=by omega
   rw [e1,e2];have hu:u/2<r.length:=by simp at h;omega
   have e3:(x::r).toArray[u/2+1]! =r.toArray[u/2]! :=by
    rw [getElem!_pos _ _ (by simp;omega),getElem!_pos _ _ (by simpa using hu)];simp
   rw [e3,<- ih];simp [kRow,kCells]
theorem flat_kRow (ss:List Dt):(flatK kCells 2 ss.toArray).toList=kRow ss:=by
 apply List.ext_getElem?;intro t;by_cases h:t<ss.length*2
 ·rw [kRow_get ss t h];have h':t<(flatK kCells 2 ss.toArray).size:=by simpa using h
  have:=get_flatK kCells 2 ss.toArray t (by simpa using h);rw [getElem!_pos _ t h'] at this;rw [Array.getElem?_toList,Array.getElem?_eq_getElem h',this]
 ·rw [List.getElem?_eq_none (by simp;omega),List.getElem?_eq_none (by rw [kRow_len];omega)]
theorem heap_sortedK {w:World}{g n:Nat}{os:Array Obj}{cur:Array Value}{e:TypeId}{fr:Nat×Nat}(d:Array Value)(hb:w.heap[g]? =some (.cells cur e fr)):
  (grow (putRow id (Sort.ahead w n) g 0 d) os).heap[g]? =some (.cells (putCells id 0 d cur) e fr):=by
 have hg:g<w.heap.size:=(Array.getElem?_eq_some_iff.1 hb).1;rw [heap_grow_old _ _ (by simpa [putRow,mapBlock,Sort.ahead] using hg)];simp [putRow,mapBlock,Sort.ahead,Array.getElem?_modify,hb,onCells]
theorem grownBy_sortedK {w:World}{g n:Nat}{os:Array Obj}(d:Array Value):w.grownBy (grow (putRow id (Sort.ahead w n) g 0 d) os) (some g):=by
 refine⟨rfl,rfl,rfl,by simp [grow,putRow,mapBlock,Sort.ahead],fun k hk hne=> ?_⟩;rw [heap_grow_old _ _ (by simpa [putRow,mapBlock,Sort.ahead] using hk)];have:g≠k:=fun e=>hne (by rw [e]);simp [putRow,mapBlock,Sort.ahead,Array.getElem?_modify,this]
theorem take_putV (cur:Array Value)(ts:List Value)(h:ts.length<=cur.size):(putCells id 0 ts.toArray cur).toList.take ts.length=ts:=by
 apply List.ext_getElem?;intro j;by_cases hj:j<ts.length
 ·rw [List.getElem?_take_of_lt hj,Array.getElem?_toList];simp [putCells,hj,show j<cur.size by omega]
 ·rw [List.getElem?_take_eq_none (by omega),List.getElem?_eq_none (by omega)]
theorem eg_cmpK:∀args w,(callFunc 78 args).run Tryz.prog w=.ok (.enter 78 args) w:=enters_of Tryz.func78 (by kernel_rfl) rfl
theorem cmpLaysK (blk off size:Nat)(w:World):CmpLays Tryz.prog 78 #[] kCells 2 cmpDt blk off size w:=fun m os dk _ x y=>
 (compareKeysW x y _).mono fun e w' ⟨he,hb⟩=>⟨he,hb.grown⟩
theorem sortFuncK (B blk cap:Nat)(ss:List Dt)(w:World)(ho:w.ownsRow B 58 2 (.slice (some ⟨blk,0,none⟩) ss.length cap) ss.length (kRow ss))(hsz:ss.length<=1048576):
  Calls Tryz.prog 105 #[.slice (some ⟨blk,0,none⟩) ss.length cap,.func (.func 78) #[] #[]] w fun e w'=>e=.returned (.tuple #[])/\∃ts:List Dt,ts.Perm ss/\ SortedIn (ltOf cmpDt) 0 ts.length ts.toArray/\ w'.ownsRow B 58 2 (.slice (some ⟨blk,0,none⟩) ss.length cap) ss.length (kRow ts)/\ w.grownBy w' (some blk):=by
 rcases ho.2 with ⟨h0,_⟩|⟨g',Hg,Hf,hv,Hb,hb,h1,h2,h3,h4⟩
 ·cases h0
 cases hv;have Hd:blk<w.heap.size:=(Array.getElem?_eq_some_iff.1 hb).1;have hH:HoldsK kCells 2 w blk 0 ss.toArray:=by
  intro t ht;have He:t<ss.length*2:=by simpa using ht
  refine⟨?_,by simp [World.frozen?,hb]⟩;have e1:(Hf.toList.take (ss.length*2))[t]? =(kRow ss)[t]? :=by rw [h4]
  rw [List.getElem?_take_of_lt He,kRow_get ss t He] at e1;have e2:=get_flatK kCells 2 ss.toArray t (by simpa using He);rw [e2];simp only [World.cell?,hb,Nat.zero_add,Option.isSome_none,Bool.false_eq_true,if_false];rw [<- Array.getElem?_toList,e1];rfl
 have Ha:=AnyQ.slices_SortFunc Tryz.sortD 2 Tryz.isAgg58 Tryz.sizeOf58 kCells kCells_len (fun x v hv=>by simp [kCells] at hv;rcases hv with rfl|rfl<;>rfl) cmpDt CmpT.dot.swo 78 #[] blk 0 cap ss.toArray w eg_cmpK (cmpLaysK blk 0 _ w) hH Hd (by simp;omega);change Calls Tryz.prog 105 _ _ _ at Ha;simp only [List.size_toArray] at Ha;refine Ha.mono ?_;rintro e w' ⟨rfl,d',n,os,hp,hs,rfl⟩;have hd:d'.size=ss.length:=by simpa using hp.1
 have Hc:d'.toList.Perm ss:=by
  have:=hp.2.2;have e1:d'.extract 0 ss.length=d':=by rw [<- hd];simp
  have e2:ss.toArray.extract 0 ss.length=ss.toArray:=by simp
  rw [e1,e2] at this;simpa using this
 refine⟨rfl,d'.toList,Hc,by simpa [hd] using hs,⟨by rw [kRow_len];simp [hd],.inr ⟨blk,cap,_,rfl,Hb,heap_sortedK _ hb,h1,h2,by simp [putCells,h3],?_⟩⟩,grownBy_sortedK _⟩;have e3:flatK kCells 2 d'=(kRow d'.toList).toArray:=by
  have:=flat_kRow d'.toList;simp only [Array.toArray_toList] at this;rw [<- this]
 rw [e3];have:=take_putV Hf (kRow d'.toList) (by rw [kRow_len];simp [hd];omega);rw [kRow_len] at this;simpa [hd] using this
theorem nodup_keys {ts:List Dt}(h:ts.Nodup)(hs:SortedIn (ltOf cmpDt) 0 ts.length ts.toArray):ts.Pairwise (fun x y=>cmpDt x y<0):=by
 have:=CmpT.dot.rises (d:=ts.toArray) (by simpa using hs) (by simpa using h);simpa using this
theorem sortedFuncK (g:Nat)(lb:Array Value)(eg:∀args w,(callFunc g args).run Tryz.prog w=.ok (.enter g args) w)(N:Nat)(f:Dt ->Option ByteArray)(w:World)(hN:N<=1048576)(hseq:SeqGives Fence.wide 4 Tryz.prog g lb dtV (KeysF f) N w):
  Calls Tryz.prog 76 #[.func (.func g) #[] lb,.func (.func 78) #[] #[]] w fun e w'=>∃(v:Value) (ts:List Dt),e=.returned v/\ ts.Pairwise (fun x y=>cmpDt x y<0)/\ (∀x,x∈ts↔f x≠none)/\ ts.length<=1048576/\ w'.ownsRow w.heap.size 58 2 v ts.length (kRow ts)/\ RowKit.Below w.heap.size w w':=by
 have HC:=hid (collectK g lb eg _ N (by unfold maxLen;omega) (by omega) w (SeqGives.bounded hseq));go_enter Tryz.func76,Tryz.ntmps76;go_wp2_with fail;refine HC.out.mono ?_;rintro e w1 ⟨v,ss,rfl,⟨hK,Hi⟩,Ha,Hd,hb⟩;rcases Ha.2 with ⟨rfl,hz⟩|⟨gb,Hh,Hk,rfl,Hc,Hl,r1,r2,r3,r4⟩
 ·have Hj:ss=[]:=List.eq_nil_of_length_eq_zero hz;subst Hj;have HB:=hid hb;have HK:=hid hK;have HR:=hid Ha;have Hb:=AnyF.slices_SortFunc_none Tryz.sortD none 0 (.func (.func 78) #[] #[]) w1;change Calls Tryz.prog 105 _ _ _ at Hb;have HS:=hid Hb;clear hb hK Ha HC Hb;go_wp2_with fail;refine HS.out.mono ?_;rintro e w2 ⟨rfl,rfl⟩;clear HS;go_wp2_with fail;go_ret;exact⟨_,[],rfl,List.Pairwise.nil,fun x=>HK.out.2 x,by simp,HR.out,HB.out⟩
 ·have HS:=hid (sortFuncK w.heap.size gb Hh ss w1 Ha (by omega));have HB:=hid hb;have HK:=hid hK;have HL:Hid (ss.length<=1048576):=hid (by omega);have Hg:=hid Hc;clear hb hK Ha HC Hd;go_wp2_with fail;refine HS.out.mono ?_;rintro e w2 ⟨rfl,ts,hp,hs,ho,hg⟩;have HO:=hid ho;have He:=hid (HB.out.grown hg HB.out.size (fun k e=>by injection e with e;have:=Hg.out;omega));have HP:=hid hp;have Hf:=hid hs;clear ho hg hp hs HS;go_wp2_with fail;go_ret;refine⟨_,ts,rfl,nodup_keys (HP.out.nodup_iff.2 HK.out.1) Hf.out,fun x=>by rw [HP.out.mem_iff];exact HK.out.2 x,by rw [HP.out.length_eq];exact HL.out,?_,He.out⟩;rw [HP.out.length_eq];exact HO.out
theorem keysNilK (n l Bm:Nat)(J:List Dt ->World ->Prop)(W:World)(hJ:AbidesFrom W.heap.size J)(hm:W.cell? ⟨Bm,0,none⟩=some (.map none))(h0:J [] W):
  CallsIn Fence.wide n Tryz.prog 128 #[.func (.yield l) #[] #[],.pointer (some ⟨Bm,0,none⟩)] W fun e W'=>(∃v,e=.returned v)/\∃ss:List Dt,KeysF (fun _=>(none:Option ByteArray)) ss/\ J ss W':=by
 have Hb:=run_range_nilMap (P:=Tryz.prog) W 63 58 74 Tryz.underlying63;have Ha:∀ty,(Instr.next (.pointer (some ⟨W.heap.size,0,none⟩)) false ty).run Tryz.prog (W.alloc (.mapIter none 0 #[] 0))=_:=fun ty=>run_next_nilMap _ ty 0 0 #[];refine callsIn_of_wp Tryz.func128 rfl trivial ?_ rfl;simp only [Tryz.ntmps128,List.size_toArray,List.length_cons,List.length_nil,Nat.reduceAdd,Nat.reduceSub,Array.replicate_succ,Array.replicate_zero,List.push_toArray,List.append_toArray,List.nil_append,List.cons_append];gi_wp2
 refine wpIn_loop_rounds 1 ?_;rw [roundsIn_succ];gi_wp2
 go_end0;exact⟨⟨_,rfl⟩,[],⟨List.nodup_nil,fun x=>by simp⟩,hJ [] W _ none h0 (World.grownBy_alloc W _ none) (fun r e=>by cases e)⟩
theorem keysFnK (mb:Option Nat)(w:World):Calls Tryz.prog 104 #[.map mb] w fun e w'=>e=.returned (.func (.func 128) #[] #[.pointer (some ⟨w.heap.size,0,none⟩)])/\ w'=w.alloc (.cells #[.map mb] 63):=by
 go_enter Tryz.func104,Tryz.ntmps104;go_wp2_with fail;go_ret;exact⟨rfl,rfl⟩
theorem sortedDotsC (B c:Nat)(N:List Ky ->Option (Nat×Nat))(M:List Ky ->Dt ->Option ByteArray)(p:List Ky)(w:World)(hT:Tre w B N M c)(hc:c<=1048576):
  Calls Tryz.prog 136 #[.agg #[.map (mF (N p)),.map (mS (N p))]] w fun e w'=>∃(v:Value) (ts:List Dt),e=.returned v/\ ts.Pairwise (fun x y=>cmpDt x y<0)/\ (∀x,x∈ts↔M p x≠none)/\ ts.length<=1048576/\ w'.ownsRow w.heap.size 58 2 v ts.length (kRow ts)/\ RowKit.Below w.heap.size w w':=by
 obtain⟨u0,He⟩:∃u,mF (N p)=u:=⟨_,rfl⟩;obtain⟨u1,Hc⟩:∃u,mS (N p)=u:=⟨_,rfl⟩;rw [He,Hc];have HG:Hid (∀w1,RowKit.Below w.heap.size w w1 ->∀Bm,Bm<w1.heap.size ->w1.cell? ⟨Bm,0,none⟩=some (.map u1) ->∃n,n<=1048576/\ SeqGives Fence.wide 4 Tryz.prog 128 #[.pointer (some ⟨Bm,0,none⟩)] dtV (KeysF (M p)) n w1):=hid (fun w1 b1 Bm hBm hm=>by
  cases e:N p with
  | some x=>
   obtain⟨D,hF⟩:=(hT.below b1).marks p x e;have:u1=some x.2:=by rw [<- Hc,e];rfl
   rw [this] at hm;exact⟨Maps.size D,Nat.le_trans hF.own.size_le hc,keysGivesK Bm x.2 c _ D w1 hBm hm hF⟩
  | none=>
   have:u1=none:=by rw [<- Hc,e];rfl
   rw [this] at hm;refine⟨0,by omega,fun l J W hW hJ hY h0=> ?_⟩;have e2:M p=fun _=>none:=funext fun y=>by rw [hT.none' _ e]
   rw [e2];exact keysNilK 4 l Bm J W hJ ((hW.cell (p:=⟨Bm,0,none⟩) hBm).trans hm) h0)
 obtain⟨W,hW⟩:∃W,w.alloc (.cells #[.map u0,.map u1] 65)=W:=⟨_,rfl⟩;have b0:RowKit.Below w.heap.size w W:=by rw [<- hW];exact zO _ _
 have X0:Bx2 W w.heap.size (.map u0) (.map u1):=by rw [<- hW];exact Bx2.made _ _ _ _
 have k0:=X0.c1;have HB:=hid b0;clear hT b0 X0 He Hc;go_enter Tryz.func136,Tryz.ntmps136;go_wp2_with fail;try rw [hW]
 clear hW;refine(keysFnK u1 W).mono ?_;rintro e w1 ⟨rfl,Hd⟩;have b1:RowKit.Below W.heap.size W w1:=by rw [Hd];exact zO _ _
 have c1:w1.cell? ⟨W.heap.size,0,none⟩=some (.map u1):=by rw [Hd];simp
 have z1:W.heap.size<w1.heap.size:=by rw [Hd];simp
 have Hb:=hid (HB.out.trans (b1.mono HB.out.size));obtain⟨n,hn,Ha⟩:=HG.out w1 Hb.out W.heap.size z1 c1;have HS:=hid (sortedFuncK _ _ (enters_of Tryz.func128 (by kernel_rfl) rfl) n (M p) w1 hn Ha);clear Ha Hd b1 c1 z1 k0 HG;go_wp2_with fail;refine HS.out.mono ?_;rintro e w2 ⟨v,ts,rfl,hp,hm,hl,ho,hb⟩;have HX:=hid (And.intro hp (And.intro hm hl));have Hf:=hid (Hb.out.trans (hb.mono Hb.out.size));have HO:Hid (w2.ownsRow w.heap.size 58 2 v ts.length (kRow ts)):=hid (by
  obtain⟨q1,q2⟩:=ho;refine⟨q1,?_⟩;rcases q2 with q2|⟨g,Hg,Hh,e,Hi,r⟩
  ·exact .inl q2
  ·exact .inr ⟨g,Hg,Hh,e,Nat.le_trans Hb.out.size Hi,r⟩)
 clear hp hm hl ho hb HS;go_wp2_with fail;go_ret;exact⟨v,ts,rfl,HX.out.1,HX.out.2.1,HX.out.2.2,HO.out,Hf.out⟩
end Go.Proofs.YtfidfeilljlbiaaGreat.Ds
namespace Go.Proofs.YtfidfeilljlbiaaGreat
open Go.ChangeShapes Go.WideShapes Go.ChangeAt Go.RowKit
theorem jdot_at {w:World}{B g m cap:Nat}{ts:List Dt}(h:w.ownsRow B 58 2 (.slice (some ⟨g,0,none⟩) m cap) m (Ds.kRow ts))(hl:ts.length=m):∀i,i<m ->∃d,ts[i]? =some d/\ w.cell? ⟨g,i*2,none⟩=some (.int .i64 d.1)/\ w.cell? ⟨g,i*2+1,none⟩=some (.int .i64 d.2):=by
 rcases h.2 with ⟨h0,_⟩|⟨g',Hd,Ha,hv,Hb,hb,h1,h2,h3,h4⟩
 ·cases h0
 ·cases hv;intro i hi;have Hc:i<ts.length:=by omega
  have e0:ts.toArray[i]! =ts[i]:=by rw [getElem!_pos _ _ (by simpa using Hc)];simp
  refine⟨ts[i],by simp [Hc],?_,?_⟩
  ·have e1:(Ha.toList.take (m*2))[i*2]? =(Ds.kRow ts)[i*2]? :=by rw [h4]
   rw [List.getElem?_take_of_lt (by omega),Ds.kRow_get ts (i*2) (by omega)] at e1;rw [show i*2/2=i by omega,show i*2%2=0 by omega,e0] at e1;simp [World.cell?,hb,<- Array.getElem?_toList,e1,Ds.kCells]
  ·have e1:(Ha.toList.take (m*2))[i*2+1]? =(Ds.kRow ts)[i*2+1]? :=by rw [h4]
   rw [List.getElem?_take_of_lt (by omega),Ds.kRow_get ts (i*2+1) (by omega)] at e1;rw [show (i*2+1)/2=i by omega,show (i*2+1)%2=1 by omega,e0] at e1;simp [World.cell?,hb,<- Array.getElem?_toList,e1,Ds.kCells]
theorem jdseg {w:World}{B:Nat}{v:Value}{ts:List Dt}(h:w.ownsRow B 58 2 v ts.length (Ds.kRow ts)):∃a Ha,v=.slice a ts.length Ha/\ ts.length<=Ha/\ Ha<=9223372036854775807/\ (0<ts.length ->∃g,a=some ⟨g,0,none⟩/\ B<=g/\ g<w.heap.size/\∀i,i<ts.length ->∃d,ts[i]? =some d/\ w.cell? ⟨g,i*2,none⟩=some (.int .i64 d.1)/\ w.cell? ⟨g,i*2+1,none⟩=some (.int .i64 d.2)):=by
 rcases h.2 with ⟨rfl,h0⟩|⟨g,Ha,Hc,rfl,Hb,hb,h1,h2,h3,h4⟩
 ·exact⟨none,0,by rw [h0],by omega,by omega,fun hh=>by omega⟩
 ·exact⟨_,Ha,rfl,h1,by unfold maxLen at h2;omega,fun _=>⟨g,rfl,Hb,(Array.getElem?_eq_some_iff.1 hb).1,jdot_at h rfl⟩⟩
theorem jkey_at {w:World}{B g m cap:Nat}{ts:List Ky}(h:w.ownsRow B 114 2 (.slice (some ⟨g,0,none⟩) m cap) m (kRow ts))(hl:ts.length=m):∀i,i<m ->∃d,ts[i]? =some d/\ w.cell? ⟨g,i*2,none⟩=some (.string d.1)/\ w.cell? ⟨g,i*2+1,none⟩=some (.int .i64 d.2):=by
 rcases h.2 with ⟨h0,_⟩|⟨g',Hd,Ha,hv,Hb,hb,h1,h2,h3,h4⟩
 ·cases h0
 ·cases hv;intro i hi;have Hc:i<ts.length:=by omega
  have e0:ts.toArray[i]! =ts[i]:=by rw [getElem!_pos _ _ (by simpa using Hc)];simp
  refine⟨ts[i],by simp [Hc],?_,?_⟩
  ·have e1:(Ha.toList.take (m*2))[i*2]? =(kRow ts)[i*2]? :=by rw [h4]
   rw [List.getElem?_take_of_lt (by omega),kRow_get ts (i*2) (by omega)] at e1;rw [show i*2/2=i by omega,show i*2%2=0 by omega,e0] at e1;simp [World.cell?,hb,<- Array.getElem?_toList,e1,kCells]
  ·have e1:(Ha.toList.take (m*2))[i*2+1]? =(kRow ts)[i*2+1]? :=by rw [h4]
   rw [List.getElem?_take_of_lt (by omega),kRow_get ts (i*2+1) (by omega)] at e1;rw [show (i*2+1)/2=i by omega,show (i*2+1)%2=1 by omega,e0] at e1;simp [World.cell?,hb,<- Array.getElem?_toList,e1,kCells]
theorem jkseg {w:World}{B:Nat}{v:Value}{ts:List Ky}(h:w.ownsRow B 114 2 v ts.length (kRow ts)):∃a Ha,v=.slice a ts.length Ha/\ ts.length<=Ha/\ Ha<=9223372036854775807/\ (0<ts.length ->∃g,a=some ⟨g,0,none⟩/\ B<=g/\ g<w.heap.size/\∀i,i<ts.length ->∃d,ts[i]? =some d/\ w.cell? ⟨g,i*2,none⟩=some (.string d.1)/\ w.cell? ⟨g,i*2+1,none⟩=some (.int .i64 d.2)):=by
 rcases h.2 with ⟨rfl,h0⟩|⟨g,Ha,Hc,rfl,Hb,hb,h1,h2,h3,h4⟩
 ·exact⟨none,0,by rw [h0],by omega,by omega,fun hh=>by omega⟩
 ·exact⟨_,Ha,rfl,h1,by unfold maxLen at h2;omega,fun _=>⟨g,rfl,Hb,(Array.getElem?_eq_some_iff.1 hb).1,jkey_at h rfl⟩⟩
theorem jnx_kind {p:List ByteArray}{x:Lf}{y:Ky}(hx:LfOk1 x)(h:nx p x=some y):(y.2=1 \/y.2=2) \/(y.2=3/\ p.length+2<=8):=by
 rw [nx_some] at h;obtain⟨⟨_,hl⟩,e⟩:=h;have e1:=congrArg Prod.snd e;unfold onWay at e1;dsimp only at e1;by_cases h2:p.length+1<x.p.length
 ·rw [if_pos h2] at e1;have:=hx.1.2.1;exact .inr ⟨e1.symm,by omega⟩
 ·rw [if_neg h2] at e1;rcases kd_or x.fl with k|k<;>rw [k] at e1
  ·exact .inl (.inl e1.symm)
  ·exact .inl (.inr e1.symm)
theorem TJ.nki {w:World}{B:Nat}{J:List Lf}{N:List Ky ->Option (Nat×Nat)}{c:Nat}(h:TJ w B J N c)(h0:N []≠none):NkI J J.length N:=fun z=>by
 by_cases e:z=[]
 ·rw [e];refine⟨fun _=> .inl rfl,fun _=> ?_⟩;cases hv:N [] with
  | none=>exact absurd hv h0
  | some v=>rfl
 ·obtain⟨u,y,rfl⟩:∃u y,z=u++[y]:=⟨z.dropLast,z.getLast e,(List.dropLast_concat_getLast e).symm⟩;rw [h.there u y];constructor
  ·rintro⟨x,hx,hp⟩;obtain⟨j,hj,ej⟩:=gL_mem.1 hx;exact .inr ⟨j,hj,by rw [ej];exact hp⟩
  ·rintro(h1|⟨j,hj,hp⟩)
   ·exact absurd h1 e
   ·exact⟨gL J j,gL_mem.2 ⟨j,hj,rfl⟩,hp⟩
theorem mark_map (l:List Lf)(p:List ByteArray)(s:ByteArray)(d:Dt):Mk l l.length (wayOf p 3++[(s,3)]) d=none:=by
 refine Classical.byContradiction fun hn=> ?_;obtain⟨j,hj,e,_⟩:=Mk_ne.1 hn;rw [<- way_snoc] at e;have:=(wayOf_inj e.symm (by simp)).2;rcases kd_or (gL l j).fl with h|h<;>omega
theorem no_kids {l:List Lf}{N:List Ky ->Option (Nat×Nat)}(hN:NkI l l.length N)(p:List ByteArray)(y u:Ky)(hy:y.2≠3):N (wayOf p 3++[y]++[u])=none:=by
 cases hv:N (wayOf p 3++[y]++[u]) with
 | none=>rfl
 | some v=>
  exfalso;have h1:(N (wayOf p 3++[y]++[u])).isSome=true:=by rw [hv];rfl
  rcases (hN _).1 h1 with h|⟨j,hj,hp⟩
  ·simp at h
  ·have hl:=hp.length_le;simp only [List.length_append,List.length_singleton,wayOf_len,Way] at hl;have h2:(Way (gL l j))[p.length]? =some y:=by
    obtain⟨t,ht⟩:=hp;rw [<- ht];simp [wayOf_len]
   unfold Way at h2;rw [wayOf_get (by omega),if_pos (by omega)] at h2;have h3:=congrArg Prod.snd (Option.some.inj h2);exact hy h3.symm
noncomputable def gK (l:List Lf)(f:Nat)(p:List ByteArray)(y:Ky):List Lf:=if y.2=3 then wL l f (p++[y.1]) else dsK l p y l.length
theorem wL_gK (l:List Lf)(f:Nat)(p:List ByteArray):wL l (f+1) p=(kS l p l.length).flatMap (gK l f p):=rfl
theorem jflat_take {α:Type}(g:α ->List Lf)(ts:List α)(k:Nat):((ts.take k).flatMap g).length<=(ts.flatMap g).length:=by
 have:ts.flatMap g=(ts.take k).flatMap g++(ts.drop k).flatMap g:=by rw [<- List.flatMap_append,List.take_append_drop]
 rw [this,List.length_append];omega
theorem appendLeaves0 (Bt c:Nat)(N:List Ky ->Option (Nat×Nat))(M:List Ky ->Dt ->Option ByteArray)(z:List Ky)(w:World)(hT:Tre w Bt N M c)(hc:c<=1048576)(hz:∀u,N (z++[u])=none)(bv vw:Value):
  Calls Tryz.prog 111 #[.agg #[.map (mF (N z)),.map (mS (N z))],bv,vw] w fun e w'=>e=.returned bv/\ Below w.heap.size w w':=by
 obtain⟨W,hW⟩:∃W,w.alloc (.cells #[.map (mF (N z)),.map (mS (N z))] 65)=W:=⟨_,rfl⟩;have b0:Below w.heap.size w W:=by rw [<- hW];exact zO _ _
 have X0:Bx2 W w.heap.size (.map (mF (N z))) (.map (mS (N z))):=by rw [<- hW];exact Bx2.made _ _ _ _
 have Hb:=hid (sortedKeysC Bt c N M z W (hT.below b0) hc);obtain⟨m0,He⟩:∃u,mF (N z)=u:=⟨_,rfl⟩;obtain⟨m1,Hf⟩:∃u,mS (N z)=u:=⟨_,rfl⟩;rw [He,Hf] at X0 Hb hW;rw [He,Hf];have k0:=X0.c0;have k1:=X0.c1;have Hh:=hid b0;have HZ:=hid hz;clear X0 b0 hT He Hf hz;go_enter Tryz.func111,Tryz.ntmps111;go_wp2_with fail;try rw [hW]
 clear hW;refine Hb.out.mono ?_;rintro e w1 ⟨vd,ts,rfl,Hd,Ha,Hl,Hg,b1⟩;obtain rfl:ts=[]:=List.eq_nil_iff_forall_not_mem.2 fun x hx=>(Ha x).1 hx (by unfold kidsF;exact HZ.out x);obtain⟨da,dc,rfl,Hc,Hj,Hk⟩:=jkseg Hg;have Hi:=hid (keepS Hh.out b1);simp only [List.length_nil] at Hc ⊢;clear Hd Ha Hl Hg b1 Hk k0 k1 Hb;go_wp2_with fail;refine wp_loop_rounds 1 ?_;rw [rounds_succ];go_wp2_with fail;go_ret;exact⟨rfl,Hi.out⟩
theorem appendLeavesN {R F T:Nat ->Int}{n:Nat}(l:List Lf)(w0:World)(Bt c:Nat)(N:List Ky ->Option (Nat×Nat))(hT:Tre w0 Bt N (Mk l l.length) c)(hN:NkI l l.length N)(hc:c<=1048576)(hlv:LvOk R F T n l l.length)(hbd:LvB l):∀(f:Nat) (p:List ByteArray),p.length+f=8 ->1<=f ->∀(bv:Value) (l0:List Lf) (vw:Value) (w:World),Below w0.heap.size w0 w ->LB w w0.heap.size bv l0 ->PWay w vw p ->(∀g,vw.ownBlock=some g ->bv.ownBlock≠some g) ->l0.length+(wL l f p).length<=1000000 ->
  Calls Tryz.prog 111 #[.agg #[.map (mF (N (wayOf p 3))),.map (mS (N (wayOf p 3)))],bv,vw] w fun e w'=>∃v,e=.returned v/\ LB w' w0.heap.size v (l0++wL l f p)/\ Gr w w' bv v
 | 0,_,_,h1,_,_,_,_,_,_,_,_,_=>by omega
 | f+1,p,hpf,_,bv,l0,vw,w,hb,ho,hvw,hne,hl=>by
  obtain⟨k1,k2⟩:=kS_ok p hlv l.length zL;rw [wL_gK] at hl ⊢;have Ln:Hid (∀s,p.length+2<=8 ->∀(bv:Value) (l0:List Lf) (vw:Value) (w:World),Below w0.heap.size w0 w ->LB w w0.heap.size bv l0 ->PWay w vw (p++[s]) ->(∀g,vw.ownBlock=some g ->bv.ownBlock≠some g) ->l0.length+(wL l f (p++[s])).length<=1000000 ->Calls Tryz.prog 111 #[.agg #[.map (mF (N (wayOf p 3++[(s,3)]))),.map (mS (N (wayOf p 3++[(s,3)])))],bv,vw] w fun e w'=>∃v,e=.returned v/\ LB w' w0.heap.size v (l0++wL l f (p++[s]))/\ Gr w w' bv v):=hid (fun s Lk bv l0 vw w h1 h2 h3 h4 h5=>by
   rw [<- way_snoc];exact appendLeavesN l w0 Bt c N hT hN hc hlv hbd f (p++[s]) (by simp;omega) (by omega) bv l0 vw w h1 h2 h3 h4 h5)
  obtain⟨W,hW⟩:∃W,w.alloc (.cells #[.map (mF (N (wayOf p 3))),.map (mS (N (wayOf p 3)))] 65)=W:=⟨_,rfl⟩;have b0:Below w.heap.size w W:=by rw [<- hW];exact zO _ _
  have X0:Bx2 W w.heap.size (.map (mF (N (wayOf p 3)))) (.map (mS (N (wayOf p 3)))):=by rw [<- hW];exact Bx2.made _ _ _ _
  have zW:W.heap.size=w.heap.size+1:=by rw [<- hW];simp
  have Jv:Below w0.heap.size w0 W:=hb.trans (b0.mono hb.size);have Jm:=hid (sortedKeysC Bt c N (Mk l l.length) (wayOf p 3) W (hT.below Jv) hc);obtain⟨m0,K7⟩:∃u,mF (N (wayOf p 3))=u:=⟨_,rfl⟩;obtain⟨m1,Gg⟩:∃u,mS (N (wayOf p 3))=u:=⟨_,rfl⟩;rw [K7,Gg] at X0 Jm hW;rw [K7,Gg];have q0:=X0.c0;have q1:=X0.c1;have HX:=hid X0;have Lm:=hid b0;have Ja:=hid Jv;have HO:=hid (ho.below b0);have Lb:=hid (hvw.below b0);have HT:=hid hT;have J9:=hid hN;have Lq:=hid K7;have Lr:=hid hne;have Lu:Hid (∀g,vw.ownBlock=some g ->g<w.heap.size):=hid hvw.lt;have Gq:Hid (∀g,bv.ownBlock=some g ->w0.heap.size<=g/\ g<w.heap.size):=hid ho.lt;have Gk:=hid k2;have J8:=hid hl;have Lc:=hid zW;have Ma:Hid (w0.heap.size<=w.heap.size):=hid hb.size;clear X0 b0 Jv ho K7 Gg k1 k2 hvw hne hl zW hb hN;go_enter Tryz.func111,Tryz.ntmps111;go_wp2_with fail;try rw [hW]
  clear hW;refine Jm.out.mono ?_;rintro e w1 ⟨vd,ts,rfl,Kp,Hi,G1,K8,b1⟩;have Kk:=kS_tree (p:=p) hlv J9.out Kp Hi;obtain⟨da,dc,rfl,Lz,L1,Lg⟩:=jkseg K8;have L4:ts.length<=1000:=by rw [Kk];have:=kS_len l p l.length;have:=hbd.len;omega
  have HD:Hid (0<ts.length ->∃g,da=some ⟨g,0,none⟩/\ W.heap.size<=g/\ g<w1.heap.size/\∀i,i<ts.length ->∃y∈ts,ts[i]? =some y/\ w1.cell? ⟨g,i*2,none⟩=some (.string y.1)/\ w1.cell? ⟨g,i*2+1,none⟩=some (.int .i64 y.2)):=hid (fun h0=>by
   obtain⟨g,e1,e2,e3,e4⟩:=Lg h0;refine⟨g,e1,e2,e3,fun i hi=> ?_⟩;obtain⟨d,f1,f2,f3⟩:=e4 i hi;exact⟨d,List.mem_of_getElem? f1,f1,f2,f3⟩)
  have J7:Hid (∀y∈ts,y.1.size<=40/\ ((y.2=1 \/y.2=2) \/(y.2=3/\ p.length+2<=8))):=hid (fun y hy=>by
   rw [Kk] at hy;obtain⟨j,hj,e⟩:=(Gk.out y).1 hy;exact⟨nx_name (hlv j hj).1 e,jnx_kind (hlv j hj).1 e⟩)
  have Lt:Hid (kS l p l.length=ts):=hid Kk.symm;rw [<- Kk] at J8;have Lp:Hid (∀y∈ts,∀w',Below w0.heap.size w0 w' ->(Instr.lookup 62 (.map m0) (.agg #[.string y.1,.int .i64 y.2]) false).run Tryz.prog w'=.ok (.agg #[.map (mF (N (wayOf p 3++[y]))),.map (mS (N (wayOf p 3++[y])))]) w'):=hid (fun y hy w' hb'=>by
   have hl:=J7.out y hy;obtain⟨kl,Jx⟩:=keyKey (s:=y.1) (k:=y.2) (by unfold maxLen;omega) (wfI (by omega) (by omega));have:=(HT.out.below hb').look (wayOf p 3) y Jx;rw [Lq.out] at this;exact this)
  have X1:=HX.out.below b1 HX.out.lt;have Lv:=hid X1;have La:=hid (HO.out.below b1);have Jl:=hid (Lb.out.below b1);have J6:=hid (Ja.out.trans (b1.mono Ja.out.size));have K9:=hid (keepS Lm.out b1);have Jn:Hid (w0.heap.size<=w1.heap.size/\ w.heap.size<w1.heap.size):=hid (by have h1:=J6.out.size;have h2:=b1.size;have h3:=Lc.out;omega);clear q0 q1 K8 Kp Hi G1 Lg Kk b1 Jm X1 HX HO Ja Lb;go_wp2_with fail;go_loopw [1,16] (fun b' i wr=>∃(k:Nat),k<=ts.length/\ i=.int .i64 k/\ Hid (LB wr w0.heap.size b' (l0++(ts.take k).flatMap (gK l f p)))/\ Hid (Gr w1 wr bv b')) (fun _ i _=>ts.length - (intOf i).toNat);case atStart=>exact⟨0,Nat.zero_le _,rfl,hid (by simpa using La.out),hid (Gr.refl _ _)⟩
  case round=>
   clear La;obtain⟨k,hk,rfl,Ke,H3⟩:=hrel;by_cases Jz:k<ts.length
   ·obtain⟨g,rfl,Mc,Md,Lh⟩:=HD.out (by omega);obtain⟨y,J4,Ll,Ge,Gf⟩:=Lh k Jz;have G0:some g≠bv.ownBlock:=fun e=>by have h1:=(Gq.out g e.symm).2;have h2:=Lc.out;omega
    have Ki:some w.heap.size≠bv.ownBlock:=fun e=>by have:=(Gq.out _ e.symm).2;omega
    have c1:=H3.out.g.cell Ge G0;have c2:=H3.out.g.cell Gf G0;have n0:=H3.out.g.cell Lv.out.c0 Ki;have J3:=J7.out y J4;have Kx:Hid (Below w0.heap.size w0 wr):=hid (J6.out.trans (H3.out.below Jn.out.1 (fun k hk=>(Gq.out k hk).1)));have Ls:Hid (PWay wr vw p):=hid (Jl.out.move H3.out.g.size (fun g hg=>H3.out.g.block g (by have h1:=Lu.out g hg;have h2:=Jn.out.2;omega) (fun e=>Lr.out g hg e.symm)));have G5:Hid (∀g,u1.ownBlock=some g ->w0.heap.size<=g/\ g<wr.heap.size):=hid Ke.out.lt;have K3:Hid ((ts.take (k+1)).flatMap (gK l f p)=(ts.take k).flatMap (gK l f p)++gK l f p y):=hid (by rw [List.take_add_one,Ll];simp);have Gd:Hid ((l0++(ts.take k).flatMap (gK l f p)).length+(gK l f p y).length<=1000000):=hid (by
     have h1:=jflat_take (gK l f p) ts (k+1);rw [K3.out,List.length_append] at h1;have h2:=J8.out;simp only [List.length_append] at h2 ⊢;omega)
    obtain⟨L0,Jr⟩:∃L0,l0++(ts.take k).flatMap (gK l f p)=L0:=⟨_,rfl⟩;have H5:Hid (∀w',Below w0.heap.size w0 w' ->(Instr.lookup 62 (.map m0) (.agg #[.string y.1,.int .i64 y.2]) false).run Tryz.prog w'=.ok (.agg #[.map (mF (N (wayOf p 3++[y]))),.map (mS (N (wayOf p 3++[y])))]) w'):=hid (fun w' h=>Lp.out y J4 w' h);obtain⟨ls,Kv,Li,Kl,Lj,Kn⟩:∃ls Kv:List Lf,gK l f p y=ls++Kv/\ (∀Hr:List Dt,Hr.Pairwise (fun x y=>cmpDt x y<0) ->(∀d,d∈Hr↔Mk l l.length (wayOf p 3++[y]) d≠none) ->Hr=ls.map fun x=>((x.r,x.q):Dt))/\ (∀x∈ls,x=⟨p++[y.1],decide (y.2=2),x.r,x.q,x.v⟩/\ Mk l l.length (wayOf p 3++[y]) (x.r,x.q)=some x.v/\ (0<=x.r/\ x.r<8)/\ (0<=x.q/\ x.q<=1000000000))/\
      (∀(bv:Value) (l0:List Lf) (vw:Value) (w:World),Below w0.heap.size w0 w ->LB w w0.heap.size bv l0 ->PWay w vw (p++[y.1]) ->(∀g,vw.ownBlock=some g ->bv.ownBlock≠some g) ->l0.length+Kv.length<=1000000 ->Calls Tryz.prog 111 #[.agg #[.map (mF (N (wayOf p 3++[y]))),.map (mS (N (wayOf p 3++[y])))],bv,vw] w fun e w'=>∃v,e=.returned v/\ LB w' w0.heap.size v (l0++Kv)/\ Gr w w' bv v):=by
     rcases J3.2 with Mb|⟨h3,Lk⟩
     ·have Ks:y.2≠3:=by omega
      refine⟨dsK l p y l.length,[],by unfold gK;rw [if_neg Ks,List.append_nil],fun Hr h1 h2=>dots_tree hlv Ks h1 h2,fun x hx=> ?_,fun bv l0 vw w h1 h2 h3 h4 h5=> ?_⟩
      ·have hv:=mark_tree Ks hbd.dis hx;obtain⟨j,hj,e,rfl⟩:=dsK_mem.1 hx;have hp:=nx_leaf_path Ks e;refine⟨?_,hv,hbd.rep j hj,hbd.seq j hj⟩;obtain⟨x,hx⟩:∃x,gL l j=x:=⟨_,rfl⟩;rw [hx] at hp ⊢;obtain⟨xp,xf,xr,xq,xv⟩:=x;have e1:xp=p++[y.1]:=hp.1;have e2:kd xf=y.2:=hp.2;have e3:xf=decide (y.2=2):=by rw [<- e2];cases xf<;>simp [kd]
       rw [<- e1,<- e3]
      ·refine(appendLeaves0 Bt c N (Mk l l.length) (wayOf p 3++[y]) w (HT.out.below h1) hc (fun u=>no_kids J9.out p y u Ks) bv vw).mono ?_;rintro e w' ⟨rfl,b⟩;exact⟨bv,rfl,by rw [List.append_nil];exact h2.below b,Gr.of_below b⟩
     ·obtain⟨s,Y⟩:=y;have h3:Y=3:=h3;subst h3;refine⟨[],wL l f (p++[s]),by unfold gK;rw [if_pos rfl,List.nil_append],fun Hr h1 h2=> ?_,fun x hx=>(by cases hx),Ln.out s Lk⟩;exact List.eq_nil_iff_forall_not_mem.2 fun d hd=>(h2 d).1 hd (mark_map l p s d)
    have Lo:=hid Kl;have K0:=hid Lj;have K2:=hid Kn;have K1:Hid (∀w',Below w0.heap.size w0 w' ->∀x∈ls,(Instr.lookup 63 (.map (mS (N (wayOf p 3++[y])))) (.agg #[.int .i64 x.r,.int .i64 x.q]) false).run Tryz.prog w'=.ok (.agg #[.string x.v]) w'):=hid (fun w' hb' x hx=>by
     have hv:=K0.out x hx;have T':=HT.out.below hb';cases e:N (wayOf p 3++[y]) with
     | none=>have h:=hv.2.1;rw [T'.none' _ e] at h;cases h
     | some x1=>
      obtain⟨kl,Jx⟩:=dotKey (r:=x.r) (q:=x.q) (wfI (by omega) (by omega)) (wfI (by omega) (by omega));have:=(T'.marks _ x1 e).look dotKeyed Tryz.underlying63 (zeroMark w') (x:=(x.r,x.q)) Jx;rw [hv.2.1] at this;exact this)
    have Hw:Hid (∀w',Below w0.heap.size w0 w' ->Calls Tryz.prog 136 #[.agg #[.map (mF (N (wayOf p 3++[y]))),.map (mS (N (wayOf p 3++[y])))]] w' fun e Hs=>∃(v:Value) (ts:List Dt),e=.returned v/\ ts=(ls.map fun x=>((x.r,x.q):Dt))/\ Hs.ownsRow w'.heap.size 58 2 v ts.length (Ds.kRow ts)/\ Below w'.heap.size w' Hs):=hid (fun w' hb'=>by
     refine(Ds.sortedDotsC Bt c N (Mk l l.length) (wayOf p 3++[y]) w' (HT.out.below hb') hc).mono ?_;rintro e Hs ⟨v,Hr,rfl,h1,h2,_,h4,h5⟩;exact⟨v,Hr,rfl,Lo.out Hr h1 h2,h4,h5⟩)
    obtain⟨a1,Ld⟩:∃a1,mF (N (wayOf p 3++[y]))=a1:=⟨_,rfl⟩;obtain⟨a2,Ju⟩:∃a2,mS (N (wayOf p 3++[y]))=a2:=⟨_,rfl⟩;rw [Ld,Ju] at H5 K2 Hw;rw [Ju] at K1;rw [Li] at K3 Gd;rw [Jr] at Gd Ke;have G9:Hid (l0++(ts.take (k+1)).flatMap (gK l f p)=L0++(ls++Kv)):=hid (by rw [K3.out,<- Jr];simp);obtain⟨s,Y⟩:=y;dsimp only at c1 c2 J3 H5 K1 K2 K0;have L9:Hid (s.size<=40):=hid J3.1;obtain⟨W1,Js⟩:∃W1,wr.alloc (.cells #[.string s,.int .i64 Y] 114)=W1:=⟨_,rfl⟩;have D1:Bx2 W1 wr.heap.size (.string s) (.int .i64 Y):=by rw [<- Js];exact Bx2.made _ _ _ _
    have K6:Below wr.heap.size wr W1:=by rw [<- Js];exact zO _ _
    obtain⟨W2,Jt⟩:∃W2,W1.alloc (.cells #[.map a1,.map a2] 65)=W2:=⟨_,rfl⟩;have Jo:Below W1.heap.size W1 W2:=by rw [<- Jt];exact zO _ _
    have Hm:Hid (Bx2 W2 W1.heap.size (.map a1) (.map a2)):=hid (by rw [<- Jt];exact Bx2.made _ _ _ _);have Gc:=hid (D1.below Jo D1.lt);have Kw:=hid (keepS K6 Jo);have H4:Hid (Below w0.heap.size w0 W2):=hid (Kx.out.trans (Kw.out.mono Kx.out.size));have Jk:=hid (Ls.out.below Kw.out);have K4:Hid (wr.heap.size<W1.heap.size/\ W1.heap.size<W2.heap.size):=hid ⟨D1.lt,Hm.out.lt⟩;have Kz:Hid (∀w',Below W2.heap.size W2 w' ->Calls Tryz.prog 135 #[vw] w' fun e Hs=>∃v,e=.returned v/\ Below w'.heap.size w' Hs/\ Hs.ownsRow w'.heap.size 9 1 v p.length (sRow p)):=hid (fun w' hb'=>cloneW vw p w' (by omega) (Jk.out.below hb'));have q0:=D1.c0;have q1:=D1.c1;have L7:=(K6.cell (p:=⟨w.heap.size,0,none⟩) (by have h1:=Jn.out.2;have h2:=H3.out.g.size;show w.heap.size<wr.heap.size;omega)).trans n0;have L5:=H5.out W1 (Kx.out.trans (K6.mono Kx.out.size));have H9:Hid (∀w',Below W2.heap.size W2 w' ->w'.cell? ⟨wr.heap.size,0,none⟩=some (.string s)):=hid (fun w' b=>(Gc.out.below b Gc.out.lt).c0);clear D1 K6 Jo Ge Gf Lh J4 Ll Ki G0 Lj Kl Kn Li Jr Ld Ju H5 K3;go_wp2_with fail;refine zR (S:=fun w'=>w'.cell? ⟨wr.heap.size,0,none⟩=some (.string s)) (H9.out _ zI.drew) (fun qh=> ?_);clear q0 q1 L7 L5 n0 c1 c2 Js Jt;refine tZ 0 24 ?_;refine tZ 2 26 ?_;refine tZ 3 27 ?_;refine ready2t (i:=1) (j:=4) (d:=some 25) (d':=some 28) (by kernel_rfl) (by kernel_rfl) (by kernel_rfl) ?_ ?_
    ·
     intro o ho K8 K hK;simp only [gZa,gZb,gZc,gZd] at ho;subst ho;go_simp;refine(Kz.out _ zI.drew).mono ?_;rintro e w3 ⟨v3,rfl,b3,o3⟩;have Ga:Below W2.heap.size W2 w3:=⟨b3.os,b3.tape,b3.output,b3.size,b3.block⟩;refine hK.out _ _ (H9.out _ Ga) (fun qh=> ?_);clear hK K;try simp only [zP]
     refine cZ 4 ?_;intro K hK;go_simp;have Hx:Below W2.heap.size W2 (w3.alloc (.cells #[.string s] 9)):=Ga.alloc Ga.size _;refine hK.out _ _ (H9.out _ Hx) (fun qh=> ?_);clear hK K;try simp only [zP]
     have o4:(w3.alloc (.cells #[.string s] 9)).ownsRow W2.heap.size 9 1 v3 p.length (sRow p):=World.ownsRow.alloc o3 _;obtain⟨pq,Hh,w5,Hg,o5,g5,J0⟩:=pthApp o4 Hx.size (by omega) s w3.heap.size (by simp);have Gv:Below W2.heap.size W2 w5:=Hx.grown g5 Hx.size (fun k e=>(World.ownsRow.lt o4 k e).1);refine cZ 5 ?_;intro K hK;refine wp_app2 _ _ _ _ rfl Hg (by rfl) (by rfl) rfl ?_;refine hK.out _ _ (H9.out _ Gv) (fun qh=> ?_);clear hK K;try simp only [zP]
     refine tZ 6 10 ?_;refine zD ?_;have H6:=hid o5;have Ho:=hid Gv;clear qh b3 Ga Hx o3 o4 o5 g5 Gv Hg H9 Kz J0;obtain⟨bu,Jw⟩:∃b,b=u1:=⟨_,rfl⟩;subst Jw;obtain⟨wq,J1⟩:∃b,b=wr:=⟨_,rfl⟩;subst J1;have Hk:Hid (Below w0.heap.size w0 w5):=hid (H4.out.trans (Ho.out.mono H4.out.size));have K5:=Hm.out.below Ho.out Hm.out.lt;have G3:=K5.c0;have G4:=K5.c1;have Gm:=hid K5;have Gj:=hid (Gc.out.below Ho.out Gc.out.lt);have Jj:Hid (W2.heap.size<=pq/\ pq<w5.heap.size):=hid (World.ownsRow.lt H6.out pq rfl);clear K5;go_wp2_with fail;refine(Hw.out w5 Hk.out).mono ?_;rintro e w6 ⟨L8,Hr,rfl,Hi,H2,b6⟩;obtain⟨Jq,Ly,rfl,Hz,Kj,H0⟩:=jdseg H2;have Ko:Hr.length=ls.length:=by rw [Hi];simp
     have Jc:Hid (0<ls.length ->∃g2,Jq=some ⟨g2,0,none⟩/\ w5.heap.size<=g2/\ g2<w6.heap.size/\∀i,i<ls.length ->∃x∈ls,ls[i]? =some x/\ w6.cell? ⟨g2,i*2,none⟩=some (.int .i64 x.r)/\ w6.cell? ⟨g2,i*2+1,none⟩=some (.int .i64 x.q)):=hid (fun h0=>by
      obtain⟨g2,e1,e2,e3,e4⟩:=H0 (by omega);refine⟨g2,e1,e2,e3,fun i hi=> ?_⟩;obtain⟨d,f1,f2,f3⟩:=e4 i (by omega);rw [Hi] at f1;simp only [List.getElem?_map,Option.map_eq_some_iff] at f1;obtain⟨x,f4,f5⟩:=f1;subst f5;exact⟨x,List.mem_of_getElem? f4,f4,f2,f3⟩)
     rw [Ko] at Hz ⊢;have Jy:ls.length<=1000000:=by have:=Gd.out;simp only [List.length_append] at this;omega
     have G6:=keepS Ho.out b6;have Gh:=keepS Kw.out G6;have Gi:=hid Gh;have Kd:Hid (LB w6 w0.heap.size bu L0):=hid (Ke.out.below Gh);have Gs:Hid (w6.ownsRow W2.heap.size 9 1 (.slice (some ⟨pq,0,none⟩) (p.length+1) Hh) (p.length+1) (sRow (p++[s]))):=hid (own_at5 H6.out (fun g hg=>b6.block g (World.ownsRow.lt H6.out g hg).2));have Jb:=hid (Gj.out.below b6 Gj.out.lt);have Kb:=hid (Gm.out.below b6 Gm.out.lt);have Ht:Hid (Below w0.heap.size w0 w6):=hid (Hk.out.trans (b6.mono Hk.out.size));have Hb:Hid (wq.heap.size<W1.heap.size/\ W1.heap.size<W2.heap.size/\ W2.heap.size<=w5.heap.size/\ w5.heap.size<=w6.heap.size/\ w0.heap.size<=w6.heap.size):=hid ⟨K4.out.1,K4.out.2,Ho.out.size,b6.size,Ht.out.size⟩;clear H2 H0 Hi Ko b6 G6 Gh G3 G4 Gj Gm H6 Ho Hm Gc Hw;go_wp2_with fail;go_loopw [1,33] (fun b' i wr=>∃(t:Nat),t<=ls.length/\ i=.int .i64 t/\ Hid (LB wr w0.heap.size b' (L0++ls.take t))/\ Hid (Gr w6 wr bu b')) (fun _ i _=>ls.length - (intOf i).toNat);case atStart=>exact⟨0,Nat.zero_le _,rfl,hid (by simpa using Kd.out),hid (Gr.refl _ _)⟩
     case round=>
      clear Kd;obtain⟨t,ht,rfl,H7,Hd⟩:=hrel;have Hq:Hid (∀b,wq.heap.size<=b ->some b≠bu.ownBlock):=hid (fun b hb e=>by have:=(G5.out b e.symm).2;omega);have Hf:Hid (∀b,((wq.heap.size<=b/\ b<w6.heap.size) \/wr.heap.size<=b) ->some b≠u1.ownBlock):=hid (fun b hb e=>by
       have h1:=(H7.out.lt b e.symm).2;rcases Hd.out.l with h2|⟨j,h2,h3⟩
       ·rw [h2] at e;have:=(G5.out b e.symm).2;have:=Hb.out;omega
       ·rw [h2] at e;have e:b=j:=by injection e
        omega)
      have L6:=Hd.out.g.size;have Gk:=hid (Hd.out.g.cell Kb.out.c0 (Hq.out _ (by have:=Hb.out;show wq.heap.size<=W1.heap.size;omega)));have Gl:=hid (Hd.out.g.cell Kb.out.c1 (Hq.out _ (by have:=Hb.out;show wq.heap.size<=W1.heap.size;omega)));have Ka:=hid (Hd.out.g.cell Jb.out.c1 (Hq.out _ zL));have Hl:Hid (Below w0.heap.size w0 wr):=hid (Ht.out.trans (Hd.out.below Hb.out.2.2.2.2 (fun k hk=>(G5.out k hk).1)));have H8:Hid (wr.ownsRow W2.heap.size 9 1 (.slice (some ⟨pq,0,none⟩) (p.length+1) Hh) (p.length+1) (sRow (p++[s]))):=hid (own_at5 Gs.out (fun g hg=>Hd.out.g.block g (World.ownsRow.lt Gs.out g hg).2 (Hq.out g (by have h1:=(World.ownsRow.lt Gs.out g hg).1;have h2:=Hb.out;omega))));by_cases G1:t<ls.length
      ·obtain⟨g2,rfl,Gy,Gz,H1⟩:=Jc.out (by omega);obtain⟨x,G2,Kr,Ge,Gf⟩:=H1 t G1;have c1:=Hd.out.g.cell Ge (Hq.out g2 (by have h2:=Hb.out;show wq.heap.size<=g2;omega));have c2:=Hd.out.g.cell Gf (Hq.out g2 (by have h2:=Hb.out;show wq.heap.size<=g2;omega));have Gb:=K0.out x G2;have Gp:Hid (∀w',Below w0.heap.size w0 w' ->(Instr.lookup 63 (.map a2) (.agg #[.int .i64 x.r,.int .i64 x.q]) false).run Tryz.prog w'=.ok (.agg #[.string x.v]) w'):=hid (fun w' h=>K1.out w' h x G2);have Gu:Hid (ls.take (t+1)=ls.take t++[x]):=hid (by rw [List.take_add_one,Kr];rfl);obtain⟨xp,xf,xr,xq,xv⟩:=x;dsimp only at c1 c2 Gb Gp;have J2:xp=p++[s]:=congrArg Lf.p Gb.1;have Kq:xf=decide (Y=2):=congrArg Lf.fl Gb.1;subst J2;have L3:(Y==2)=xf:=by rw [Kq];rfl
       have L2:∀w:World,(Instr.field 74 (.agg #[.string xv]) 0).run Tryz.prog w=.ok (.string xv) w:=fun w=>by kernel_rfl
       obtain⟨V1,Gw⟩:∃V1,wr.alloc (.cells #[.int .i64 xr,.int .i64 xq] 58)=V1:=⟨_,rfl⟩;have Hn:Below wr.heap.size wr V1:=by rw [<- Gw];exact zO _ _
       have DV:Bx2 V1 wr.heap.size (.int .i64 xr) (.int .i64 xq):=by rw [<- Gw];exact Bx2.made _ _ _ _
       have Hv:=hid DV;have Hp:Hid (Below w0.heap.size w0 V1):=hid (Hl.out.trans (Hn.mono Hl.out.size));have Kc:=hid (H7.out.below Hn);have Kf:=hid (own_way (own_at5 H8.out (fun g hg=>Hn.block g (World.ownsRow.lt H8.out g hg).2)) (show (p++[s]).length=p.length+1 by simp));have Hu:Hid (∀w',Below V1.heap.size V1 w' ->Calls Tryz.prog 135 #[.slice (some ⟨pq,0,none⟩) (p.length+1) Hh] w' fun e Hs=>∃q cap,e=.returned (.slice (some ⟨q,0,none⟩) (p.length+1) cap)/\ Below w'.heap.size w' Hs/\ Hs.ownsRow w'.heap.size 9 1 (.slice (some ⟨q,0,none⟩) (p.length+1) cap) (p.length+1) (sRow (p++[s]))):=hid (fun w' hb'=>by
        have hw:=Kf.out.2.same (hb'.block pq Kf.out.2.lt);exact cloneS pq (p.length+1) Hh (p++[s]) w' (by simp) (by omega) hw.lt (fun t ht=>hw.cell ht))
       have G7:Hid (∀w7 q7 Ha,Below V1.heap.size V1 w7 ->w7.ownsRow V1.heap.size 9 1 (.slice (some ⟨q7,0,none⟩) (p.length+1) Ha) (p.length+1) (sRow (p++[s])) ->∃q' Hc n' w3,(Builtin.append_ #[23,23] 23 #[u1,.slice (some ⟨w7.heap.size,0,none⟩) 1 1]).run Tryz.prog (w7.alloc (.cells #[.slice (some ⟨q7,0,none⟩) (p.length+1) Ha,.bool xf,.int .i64 xr,.int .i64 xq,.string xv] 60))=.ok (.slice (some ⟨q',0,none⟩) n' Hc) w3/\
         LB w3 w0.heap.size (.slice (some ⟨q',0,none⟩) n' Hc) (L0++ls.take (t+1))/\ Gr w7 w3 u1 (.slice (some ⟨q',0,none⟩) n' Hc)):=hid (fun w7 q7 Ha b7 o7=>by
        have Km:=World.ownsRow.lt o7 q7 rfl;have Gx:p.length+1<=Ha/\ Ha<=9223372036854775807:=by
         rcases o7.2 with ⟨h0,_⟩|⟨g',Hc,Lx,hv,Kh,hb,h1,h2,h3,h4⟩
         ·cases h0
         ·injection hv with e1 e2 e3;unfold maxLen at h2;omega
        obtain⟨q',Hc,w3,e1,e2,e3⟩:=Kc.out.app b7 Hp.out.size (by have h1:=Gd.out;simp only [List.length_append,List.length_take] at h1 ⊢;omega) ⟨p++[s],xf,xr,xq,xv⟩ q7 Ha Km.1 Km.2 (by simpa using (own_way o7 (show (p++[s]).length=p.length+1 by simp)).2) (by simpa using Gx);refine⟨q',Hc,_,w3,by simpa using e1,?_,e3⟩;rw [Gu.out,<- List.append_assoc];exact e2)
       have Gt:Hid (∀w',Below w0.heap.size w0 w' ->w'.cell? ⟨wq.heap.size,1,none⟩=some (.int .i64 Y) ->w'.cell? ⟨W1.heap.size,1,none⟩=some (.map a2) ->w'.cell? ⟨wr.heap.size,0,none⟩=some (.int .i64 xr) ->w'.cell? ⟨wr.heap.size,1,none⟩=some (.int .i64 xq) ->(w'.cell? ⟨wq.heap.size,1,none⟩=some (.int .i64 Y)/\ w'.cell? ⟨W1.heap.size,1,none⟩=some (.map a2)/\ w'.cell? ⟨wr.heap.size,0,none⟩=some (.int .i64 xr)/\ w'.cell? ⟨wr.heap.size,1,none⟩=some (.int .i64 xq)/\ (Instr.lookup 63 (.map a2) (.agg #[.int .i64 xr,.int .i64 xq]) false).run Tryz.prog w'=.ok (.agg #[.string xv]) w')):=hid (fun w' h1 h2 h3 h4 h5=>⟨h2,h3,h4,h5,Gp.out w' h1⟩);have Go:=hid ((Hn.cell (p:=⟨wq.heap.size,1,none⟩) (by have:=Hb.out;show wq.heap.size<wr.heap.size;omega)).trans Ka.out);have Gn:=hid ((Hn.cell (p:=⟨W1.heap.size,1,none⟩) (by have:=Hb.out;show W1.heap.size<wr.heap.size;omega)).trans Gl.out);have Hj:Hid (∀w',Below V1.heap.size V1 w' ->(w'.cell? ⟨wq.heap.size,1,none⟩=some (.int .i64 Y)/\ w'.cell? ⟨W1.heap.size,1,none⟩=some (.map a2)/\ w'.cell? ⟨wr.heap.size,0,none⟩=some (.int .i64 xr)/\ w'.cell? ⟨wr.heap.size,1,none⟩=some (.int .i64 xq)/\ (Instr.lookup 63 (.map a2) (.agg #[.int .i64 xr,.int .i64 xq]) false).run Tryz.prog w'=.ok (.agg #[.string xv]) w')):=hid (fun w' b=>by
        have hz:=Hv.out.lt;have h6:=Hb.out;exact Gt.out w' (Hp.out.trans (b.mono Hp.out.size)) ((b.cell (p:=⟨wq.heap.size,1,none⟩) (by show wq.heap.size<V1.heap.size;omega)).trans Go.out) ((b.cell (p:=⟨W1.heap.size,1,none⟩) (by show W1.heap.size<V1.heap.size;omega)).trans Gn.out) (Hv.out.below b Hv.out.lt).c0 (Hv.out.below b Hv.out.lt).c1)
       have Jf:Hid (Gr w6 V1 bu u1):=hid (Hd.out.trans (Gr.of_below Hn));have Lw:Hid (wr.heap.size<V1.heap.size):=hid DV.lt;clear Hn DV Ge Gf H1 G2 Kr Gb H7 Hd Kq Gp Ka Gl Gk H8 Gy Gz;go_wp2_with fail;refine zR (S:=fun w'=>w'.cell? ⟨wq.heap.size,1,none⟩=some (.int .i64 Y)/\ w'.cell? ⟨W1.heap.size,1,none⟩=some (.map a2)/\ w'.cell? ⟨wr.heap.size,0,none⟩=some (.int .i64 xr)/\ w'.cell? ⟨wr.heap.size,1,none⟩=some (.int .i64 xq)/\ (Instr.lookup 63 (.map a2) (.agg #[.int .i64 xr,.int .i64 xq]) false).run Tryz.prog w'=.ok (.agg #[.string xv]) w') (Hj.out _ zI.drew) (fun qh=> ?_);clear c1 c2 Gw;refine tZ 0 37 ?_;refine tZ 1 38 ?_;refine tZ 3 40 ?_;refine tZ 4 41 ?_;refine tZ 5 42 ?_;refine tZ 6 43 ?_;refine tZ 7 44 ?_;refine tZ 8 45 ?_;refine tZ 9 46 ?_;refine tZ 10 47 ?_;refine tZ 11 48 ?_;refine cZ 2 ?_;intro K hK;go_simp;refine(Hu.out _ zI.drew).mono ?_;rintro e w7 ⟨q7,Ha,rfl,b7,o7⟩;have He:Below V1.heap.size V1 w7:=⟨b7.os,b7.tape,b7.output,b7.size,b7.block⟩;refine hK.out _ _ (Hj.out _ He) (fun qh=> ?_);clear hK K;try simp only [zP]
       refine tZ 12 49 ?_;refine cZ 13 ?_;intro K hK;go_simp;obtain⟨q8,Jp,n8,w8,Hg,Kt,g8⟩:=G7.out w7 q7 Ha He o7;have Kg:Below V1.heap.size V1 (w7.alloc (.cells #[.slice (some ⟨q7,0,none⟩) (p.length+1) Ha,.bool xf,.int .i64 xr,.int .i64 xq,.string xv] 60)):=He.alloc He.size _;refine hK.out _ _ (Hj.out _ Kg) (fun qh=> ?_);clear hK K;try simp only [zP]
       refine cZ 14 ?_;intro K hK;refine wp_app2 _ _ _ _ rfl Hg (by rfl) (by rfl) rfl ?_;have t1:=(Hj.out _ He).1;have t2:=(Hj.out _ He).2.1;have t3:=(Hj.out _ He).2.2.1;have t4:=(Hj.out _ He).2.2.2.1;have Hy:Below w0.heap.size w0 w8:=(Hp.out.trans (He.mono Hp.out.size)).trans (g8.below (by have h1:=Hp.out.size;have h2:=He.size;omega) (fun k hk=>(Kc.out.lt k hk).1));refine hK.out _ _ (Gt.out _ Hy (g8.g.cell t1 (Hf.out _ (.inl ⟨Nat.le_refl _,by have:=Hb.out;show wq.heap.size<w6.heap.size;omega⟩))) (g8.g.cell t2 (Hf.out _ (.inl ⟨by have:=Hb.out;show wq.heap.size<=W1.heap.size;omega,by have:=Hb.out;show W1.heap.size<w6.heap.size;omega⟩))) (g8.g.cell t3 (Hf.out _ (.inr zL))) (g8.g.cell t4 (Hf.out _ (.inr zL)))) (fun qh=> ?_);clear hK K;try simp only [zP]
       refine tZ 15 1 ?_;refine zD ?_;have Jg:=hid Kt;have Jd:=hid ((Jf.out.trans (Gr.of_below He)).trans g8);clear qh b7 He Kg o7 Hg Kt g8 t1 t2 t3 t4 Hy Hj Gt G7 Hu;go_wp2_with fail;go_roundw;case rel=>exact⟨t+1,G1,by go_num,Jg,Jd⟩
       case measure=>simp [intOf];omega
      ·obtain rfl:t=ls.length:=by omega
       have Ji:Hid (LB wr w0.heap.size u1 (L0++ls)):=hid (by have:=H7.out;rw [List.take_length] at this;exact this);have G3:=Gk.out;have G4:=Gl.out;have G8:=hid (K2.out u1 (L0++ls) (.slice (some ⟨pq,0,none⟩) (p.length+1) Hh) wr Hl.out Ji.out (own_way H8.out (show (p++[s]).length=p.length+1 by simp)).1 (fun g hg e=>by
        have e1:pq=g:=by simpa [Value.ownBlock] using hg
        subst e1;exact Hf.out pq (.inl (by have h1:=Jj.out;have h2:=Hb.out;omega)) e.symm) (by have:=Gd.out;simp only [List.length_append] at this ⊢;omega))
       go_wp2_with fail;refine G8.out.mono ?_;rintro e w9 ⟨v9,rfl,Ku,g9⟩;have Jh:Hid (LB w9 w0.heap.size v9 (l0++(ts.take (k+1)).flatMap (gK l f p))):=hid (by rw [G9.out,<- List.append_assoc];exact Ku);have Je:Hid (Gr w1 w9 bv v9):=hid (((H3.out.trans (Gr.of_below Gi.out)).trans Hd.out).trans g9);clear Ku g9 G8 G3 G4;go_wp2_with fail;go_roundw;case rel=>exact⟨k+1,Jz,by go_num,Jh,Je⟩
       case measure=>simp [intOf];omega
    ·
     intro o ho K8 K hK;simp only [gZa,gZb,gZc,gZd] at ho;subst ho;go_simp;have Ga:Below W2.heap.size W2 (W2.drew.alloc (.cells #[.string s] 9)):=(zI.drew).alloc zL _;refine hK.out _ _ (H9.out _ Ga) (fun qh=> ?_);clear hK K;try simp only [zP]
     refine cZ 1 ?_;intro K hK;go_simp;refine(Kz.out _ Ga).mono ?_;rintro e w4 ⟨v3,rfl,b4,o4⟩;have Hx:Below W2.heap.size W2 w4:=keepS Ga b4;refine hK.out _ _ (H9.out _ Hx) (fun qh=> ?_);clear hK K;try simp only [zP]
     have Gg:=Bx1.made W2.drew (.string s) 9;have Le:w4.cell? ⟨W2.heap.size,0,none⟩=some (.string s):=(b4.cell (p:=⟨W2.heap.size,0,none⟩) Gg.lt).trans Gg.c0;have J5:w4.ownsRow W2.heap.size 9 1 v3 p.length (sRow p):=own_weak5 o4 (Nat.le_of_lt Gg.lt);obtain⟨pq,Hh,w5,Hg,o5,g5,J0⟩:=pthApp J5 Hx.size (by omega) s W2.heap.size Le;have Gv:Below W2.heap.size W2 w5:=Hx.grown g5 Hx.size (fun k e=>(World.ownsRow.lt J5 k e).1);refine cZ 5 ?_;intro K hK;refine wp_app2 _ _ _ _ rfl Hg (by rfl) (by rfl) rfl ?_;refine hK.out _ _ (H9.out _ Gv) (fun qh=> ?_);clear hK K;try simp only [zP]
     refine tZ 6 10 ?_;refine zD ?_;have H6:=hid o5;have Ho:=hid Gv;clear qh Ga Hx b4 Gg Le o4 J5 o5 g5 Gv Hg H9 Kz J0;obtain⟨bu,Jw⟩:∃b,b=u1:=⟨_,rfl⟩;subst Jw;obtain⟨wq,J1⟩:∃b,b=wr:=⟨_,rfl⟩;subst J1;have Hk:Hid (Below w0.heap.size w0 w5):=hid (H4.out.trans (Ho.out.mono H4.out.size));have K5:=Hm.out.below Ho.out Hm.out.lt;have G3:=K5.c0;have G4:=K5.c1;have Gm:=hid K5;have Gj:=hid (Gc.out.below Ho.out Gc.out.lt);have Jj:Hid (W2.heap.size<=pq/\ pq<w5.heap.size):=hid (World.ownsRow.lt H6.out pq rfl);clear K5;go_wp2_with fail;refine(Hw.out w5 Hk.out).mono ?_;rintro e w6 ⟨L8,Hr,rfl,Hi,H2,b6⟩;obtain⟨Jq,Ly,rfl,Hz,Kj,H0⟩:=jdseg H2;have Ko:Hr.length=ls.length:=by rw [Hi];simp
     have Jc:Hid (0<ls.length ->∃g2,Jq=some ⟨g2,0,none⟩/\ w5.heap.size<=g2/\ g2<w6.heap.size/\∀i,i<ls.length ->∃x∈ls,ls[i]? =some x/\ w6.cell? ⟨g2,i*2,none⟩=some (.int .i64 x.r)/\ w6.cell? ⟨g2,i*2+1,none⟩=some (.int .i64 x.q)):=hid (fun h0=>by
      obtain⟨g2,e1,e2,e3,e4⟩:=H0 (by omega);refine⟨g2,e1,e2,e3,fun i hi=> ?_⟩;obtain⟨d,f1,f2,f3⟩:=e4 i (by omega);rw [Hi] at f1;simp only [List.getElem?_map,Option.map_eq_some_iff] at f1;obtain⟨x,f4,f5⟩:=f1;subst f5;exact⟨x,List.mem_of_getElem? f4,f4,f2,f3⟩)
     rw [Ko] at Hz ⊢;have Jy:ls.length<=1000000:=by have:=Gd.out;simp only [List.length_append] at this;omega
     have G6:=keepS Ho.out b6;have Gh:=keepS Kw.out G6;have Gi:=hid Gh;have Kd:Hid (LB w6 w0.heap.size bu L0):=hid (Ke.out.below Gh);have Gs:Hid (w6.ownsRow W2.heap.size 9 1 (.slice (some ⟨pq,0,none⟩) (p.length+1) Hh) (p.length+1) (sRow (p++[s]))):=hid (own_at5 H6.out (fun g hg=>b6.block g (World.ownsRow.lt H6.out g hg).2));have Jb:=hid (Gj.out.below b6 Gj.out.lt);have Kb:=hid (Gm.out.below b6 Gm.out.lt);have Ht:Hid (Below w0.heap.size w0 w6):=hid (Hk.out.trans (b6.mono Hk.out.size));have Hb:Hid (wq.heap.size<W1.heap.size/\ W1.heap.size<W2.heap.size/\ W2.heap.size<=w5.heap.size/\ w5.heap.size<=w6.heap.size/\ w0.heap.size<=w6.heap.size):=hid ⟨K4.out.1,K4.out.2,Ho.out.size,b6.size,Ht.out.size⟩;clear H2 H0 Hi Ko b6 G6 Gh G3 G4 Gj Gm H6 Ho Hm Gc Hw;go_wp2_with fail;go_loopw [1,33] (fun b' i wr=>∃(t:Nat),t<=ls.length/\ i=.int .i64 t/\ Hid (LB wr w0.heap.size b' (L0++ls.take t))/\ Hid (Gr w6 wr bu b')) (fun _ i _=>ls.length - (intOf i).toNat);case atStart=>exact⟨0,Nat.zero_le _,rfl,hid (by simpa using Kd.out),hid (Gr.refl _ _)⟩
     case round=>
      clear Kd;obtain⟨t,ht,rfl,H7,Hd⟩:=hrel;have Hq:Hid (∀b,wq.heap.size<=b ->some b≠bu.ownBlock):=hid (fun b hb e=>by have:=(G5.out b e.symm).2;omega);have Hf:Hid (∀b,((wq.heap.size<=b/\ b<w6.heap.size) \/wr.heap.size<=b) ->some b≠u1.ownBlock):=hid (fun b hb e=>by
       have h1:=(H7.out.lt b e.symm).2;rcases Hd.out.l with h2|⟨j,h2,h3⟩
       ·rw [h2] at e;have:=(G5.out b e.symm).2;have:=Hb.out;omega
       ·rw [h2] at e;have e:b=j:=by injection e
        omega)
      have L6:=Hd.out.g.size;have Gk:=hid (Hd.out.g.cell Kb.out.c0 (Hq.out _ (by have:=Hb.out;show wq.heap.size<=W1.heap.size;omega)));have Gl:=hid (Hd.out.g.cell Kb.out.c1 (Hq.out _ (by have:=Hb.out;show wq.heap.size<=W1.heap.size;omega)));have Ka:=hid (Hd.out.g.cell Jb.out.c1 (Hq.out _ zL));have Hl:Hid (Below w0.heap.size w0 wr):=hid (Ht.out.trans (Hd.out.below Hb.out.2.2.2.2 (fun k hk=>(G5.out k hk).1)));have H8:Hid (wr.ownsRow W2.heap.size 9 1 (.slice (some ⟨pq,0,none⟩) (p.length+1) Hh) (p.length+1) (sRow (p++[s]))):=hid (own_at5 Gs.out (fun g hg=>Hd.out.g.block g (World.ownsRow.lt Gs.out g hg).2 (Hq.out g (by have h1:=(World.ownsRow.lt Gs.out g hg).1;have h2:=Hb.out;omega))));by_cases G1:t<ls.length
      ·obtain⟨g2,rfl,Gy,Gz,H1⟩:=Jc.out (by omega);obtain⟨x,G2,Kr,Ge,Gf⟩:=H1 t G1;have c1:=Hd.out.g.cell Ge (Hq.out g2 (by have h2:=Hb.out;show wq.heap.size<=g2;omega));have c2:=Hd.out.g.cell Gf (Hq.out g2 (by have h2:=Hb.out;show wq.heap.size<=g2;omega));have Gb:=K0.out x G2;have Gp:Hid (∀w',Below w0.heap.size w0 w' ->(Instr.lookup 63 (.map a2) (.agg #[.int .i64 x.r,.int .i64 x.q]) false).run Tryz.prog w'=.ok (.agg #[.string x.v]) w'):=hid (fun w' h=>K1.out w' h x G2);have Gu:Hid (ls.take (t+1)=ls.take t++[x]):=hid (by rw [List.take_add_one,Kr];rfl);obtain⟨xp,xf,xr,xq,xv⟩:=x;dsimp only at c1 c2 Gb Gp;have J2:xp=p++[s]:=congrArg Lf.p Gb.1;have Kq:xf=decide (Y=2):=congrArg Lf.fl Gb.1;subst J2;have L3:(Y==2)=xf:=by rw [Kq];rfl
       have L2:∀w:World,(Instr.field 74 (.agg #[.string xv]) 0).run Tryz.prog w=.ok (.string xv) w:=fun w=>by kernel_rfl
       obtain⟨V1,Gw⟩:∃V1,wr.alloc (.cells #[.int .i64 xr,.int .i64 xq] 58)=V1:=⟨_,rfl⟩;have Hn:Below wr.heap.size wr V1:=by rw [<- Gw];exact zO _ _
       have DV:Bx2 V1 wr.heap.size (.int .i64 xr) (.int .i64 xq):=by rw [<- Gw];exact Bx2.made _ _ _ _
       have Hv:=hid DV;have Hp:Hid (Below w0.heap.size w0 V1):=hid (Hl.out.trans (Hn.mono Hl.out.size));have Kc:=hid (H7.out.below Hn);have Kf:=hid (own_way (own_at5 H8.out (fun g hg=>Hn.block g (World.ownsRow.lt H8.out g hg).2)) (show (p++[s]).length=p.length+1 by simp));have Hu:Hid (∀w',Below V1.heap.size V1 w' ->Calls Tryz.prog 135 #[.slice (some ⟨pq,0,none⟩) (p.length+1) Hh] w' fun e Hs=>∃q cap,e=.returned (.slice (some ⟨q,0,none⟩) (p.length+1) cap)/\ Below w'.heap.size w' Hs/\ Hs.ownsRow w'.heap.size 9 1 (.slice (some ⟨q,0,none⟩) (p.length+1) cap) (p.length+1) (sRow (p++[s]))):=hid (fun w' hb'=>by
        have hw:=Kf.out.2.same (hb'.block pq Kf.out.2.lt);exact cloneS pq (p.length+1) Hh (p++[s]) w' (by simp) (by omega) hw.lt (fun t ht=>hw.cell ht))
       have G7:Hid (∀w7 q7 Ha,Below V1.heap.size V1 w7 ->w7.ownsRow V1.heap.size 9 1 (.slice (some ⟨q7,0,none⟩) (p.length+1) Ha) (p.length+1) (sRow (p++[s])) ->∃q' Hc n' w3,(Builtin.append_ #[23,23] 23 #[u1,.slice (some ⟨w7.heap.size,0,none⟩) 1 1]).run Tryz.prog (w7.alloc (.cells #[.slice (some ⟨q7,0,none⟩) (p.length+1) Ha,.bool xf,.int .i64 xr,.int .i64 xq,.string xv] 60))=.ok (.slice (some ⟨q',0,none⟩) n' Hc) w3/\
         LB w3 w0.heap.size (.slice (some ⟨q',0,none⟩) n' Hc) (L0++ls.take (t+1))/\ Gr w7 w3 u1 (.slice (some ⟨q',0,none⟩) n' Hc)):=hid (fun w7 q7 Ha b7 o7=>by
        have Km:=World.ownsRow.lt o7 q7 rfl;have Gx:p.length+1<=Ha/\ Ha<=9223372036854775807:=by
         rcases o7.2 with ⟨h0,_⟩|⟨g',Hc,Lx,hv,Kh,hb,h1,h2,h3,h4⟩
         ·cases h0
         ·injection hv with e1 e2 e3;unfold maxLen at h2;omega
        obtain⟨q',Hc,w3,e1,e2,e3⟩:=Kc.out.app b7 Hp.out.size (by have h1:=Gd.out;simp only [List.length_append,List.length_take] at h1 ⊢;omega) ⟨p++[s],xf,xr,xq,xv⟩ q7 Ha Km.1 Km.2 (by simpa using (own_way o7 (show (p++[s]).length=p.length+1 by simp)).2) (by simpa using Gx);refine⟨q',Hc,_,w3,by simpa using e1,?_,e3⟩;rw [Gu.out,<- List.append_assoc];exact e2)
       have Gt:Hid (∀w',Below w0.heap.size w0 w' ->w'.cell? ⟨wq.heap.size,1,none⟩=some (.int .i64 Y) ->w'.cell? ⟨W1.heap.size,1,none⟩=some (.map a2) ->w'.cell? ⟨wr.heap.size,0,none⟩=some (.int .i64 xr) ->w'.cell? ⟨wr.heap.size,1,none⟩=some (.int .i64 xq) ->(w'.cell? ⟨wq.heap.size,1,none⟩=some (.int .i64 Y)/\ w'.cell? ⟨W1.heap.size,1,none⟩=some (.map a2)/\ w'.cell? ⟨wr.heap.size,0,none⟩=some (.int .i64 xr)/\ w'.cell? ⟨wr.heap.size,1,none⟩=some (.int .i64 xq)/\ (Instr.lookup 63 (.map a2) (.agg #[.int .i64 xr,.int .i64 xq]) false).run Tryz.prog w'=.ok (.agg #[.string xv]) w')):=hid (fun w' h1 h2 h3 h4 h5=>⟨h2,h3,h4,h5,Gp.out w' h1⟩);have Go:=hid ((Hn.cell (p:=⟨wq.heap.size,1,none⟩) (by have:=Hb.out;show wq.heap.size<wr.heap.size;omega)).trans Ka.out);have Gn:=hid ((Hn.cell (p:=⟨W1.heap.size,1,none⟩) (by have:=Hb.out;show W1.heap.size<wr.heap.size;omega)).trans Gl.out);have Hj:Hid (∀w',Below V1.heap.size V1 w' ->(w'.cell? ⟨wq.heap.size,1,none⟩=some (.int .i64 Y)/\ w'.cell? ⟨W1.heap.size,1,none⟩=some (.map a2)/\ w'.cell? ⟨wr.heap.size,0,none⟩=some (.int .i64 xr)/\ w'.cell? ⟨wr.heap.size,1,none⟩=some (.int .i64 xq)/\ (Instr.lookup 63 (.map a2) (.agg #[.int .i64 xr,.int .i64 xq]) false).run Tryz.prog w'=.ok (.agg #[.string xv]) w')):=hid (fun w' b=>by
        have hz:=Hv.out.lt;have h6:=Hb.out;exact Gt.out w' (Hp.out.trans (b.mono Hp.out.size)) ((b.cell (p:=⟨wq.heap.size,1,none⟩) (by show wq.heap.size<V1.heap.size;omega)).trans Go.out) ((b.cell (p:=⟨W1.heap.size,1,none⟩) (by show W1.heap.size<V1.heap.size;omega)).trans Gn.out) (Hv.out.below b Hv.out.lt).c0 (Hv.out.below b Hv.out.lt).c1)
       have Jf:Hid (Gr w6 V1 bu u1):=hid (Hd.out.trans (Gr.of_below Hn));have Lw:Hid (wr.heap.size<V1.heap.size):=hid DV.lt;clear Hn DV Ge Gf H1 G2 Kr Gb H7 Hd Kq Gp Ka Gl Gk H8 Gy Gz;go_wp2_with fail;refine zR (S:=fun w'=>w'.cell? ⟨wq.heap.size,1,none⟩=some (.int .i64 Y)/\ w'.cell? ⟨W1.heap.size,1,none⟩=some (.map a2)/\ w'.cell? ⟨wr.heap.size,0,none⟩=some (.int .i64 xr)/\ w'.cell? ⟨wr.heap.size,1,none⟩=some (.int .i64 xq)/\ (Instr.lookup 63 (.map a2) (.agg #[.int .i64 xr,.int .i64 xq]) false).run Tryz.prog w'=.ok (.agg #[.string xv]) w') (Hj.out _ zI.drew) (fun qh=> ?_);clear c1 c2 Gw;refine tZ 0 37 ?_;refine tZ 1 38 ?_;refine tZ 3 40 ?_;refine tZ 4 41 ?_;refine tZ 5 42 ?_;refine tZ 6 43 ?_;refine tZ 7 44 ?_;refine tZ 8 45 ?_;refine tZ 9 46 ?_;refine tZ 10 47 ?_;refine tZ 11 48 ?_;refine cZ 2 ?_;intro K hK;go_simp;refine(Hu.out _ zI.drew).mono ?_;rintro e w7 ⟨q7,Ha,rfl,b7,o7⟩;have He:Below V1.heap.size V1 w7:=⟨b7.os,b7.tape,b7.output,b7.size,b7.block⟩;refine hK.out _ _ (Hj.out _ He) (fun qh=> ?_);clear hK K;try simp only [zP]
       refine tZ 12 49 ?_;refine cZ 13 ?_;intro K hK;go_simp;obtain⟨q8,Jp,n8,w8,Hg,Kt,g8⟩:=G7.out w7 q7 Ha He o7;have Kg:Below V1.heap.size V1 (w7.alloc (.cells #[.slice (some ⟨q7,0,none⟩) (p.length+1) Ha,.bool xf,.int .i64 xr,.int .i64 xq,.string xv] 60)):=He.alloc He.size _;refine hK.out _ _ (Hj.out _ Kg) (fun qh=> ?_);clear hK K;try simp only [zP]
       refine cZ 14 ?_;intro K hK;refine wp_app2 _ _ _ _ rfl Hg (by rfl) (by rfl) rfl ?_;have t1:=(Hj.out _ He).1;have t2:=(Hj.out _ He).2.1;have t3:=(Hj.out _ He).2.2.1;have t4:=(Hj.out _ He).2.2.2.1;have Hy:Below w0.heap.size w0 w8:=(Hp.out.trans (He.mono Hp.out.size)).trans (g8.below (by have h1:=Hp.out.size;have h2:=He.size;omega) (fun k hk=>(Kc.out.lt k hk).1));refine hK.out _ _ (Gt.out _ Hy (g8.g.cell t1 (Hf.out _ (.inl ⟨Nat.le_refl _,by have:=Hb.out;show wq.heap.size<w6.heap.size;omega⟩))) (g8.g.cell t2 (Hf.out _ (.inl ⟨by have:=Hb.out;show wq.heap.size<=W1.heap.size;omega,by have:=Hb.out;show W1.heap.size<w6.heap.size;omega⟩))) (g8.g.cell t3 (Hf.out _ (.inr zL))) (g8.g.cell t4 (Hf.out _ (.inr zL)))) (fun qh=> ?_);clear hK K;try simp only [zP]
       refine tZ 15 1 ?_;refine zD ?_;have Jg:=hid Kt;have Jd:=hid ((Jf.out.trans (Gr.of_below He)).trans g8);clear qh b7 He Kg o7 Hg Kt g8 t1 t2 t3 t4 Hy Hj Gt G7 Hu;go_wp2_with fail;go_roundw;case rel=>exact⟨t+1,G1,by go_num,Jg,Jd⟩
       case measure=>simp [intOf];omega
      ·obtain rfl:t=ls.length:=by omega
       have Ji:Hid (LB wr w0.heap.size u1 (L0++ls)):=hid (by have:=H7.out;rw [List.take_length] at this;exact this);have G3:=Gk.out;have G4:=Gl.out;have G8:=hid (K2.out u1 (L0++ls) (.slice (some ⟨pq,0,none⟩) (p.length+1) Hh) wr Hl.out Ji.out (own_way H8.out (show (p++[s]).length=p.length+1 by simp)).1 (fun g hg e=>by
        have e1:pq=g:=by simpa [Value.ownBlock] using hg
        subst e1;exact Hf.out pq (.inl (by have h1:=Jj.out;have h2:=Hb.out;omega)) e.symm) (by have:=Gd.out;simp only [List.length_append] at this ⊢;omega))
       go_wp2_with fail;refine G8.out.mono ?_;rintro e w9 ⟨v9,rfl,Ku,g9⟩;have Jh:Hid (LB w9 w0.heap.size v9 (l0++(ts.take (k+1)).flatMap (gK l f p))):=hid (by rw [G9.out,<- List.append_assoc];exact Ku);have Je:Hid (Gr w1 w9 bv v9):=hid (((H3.out.trans (Gr.of_below Gi.out)).trans Hd.out).trans g9);clear Ku g9 G8 G3 G4;go_wp2_with fail;go_roundw;case rel=>exact⟨k+1,Jz,by go_num,Jh,Je⟩
       case measure=>simp [intOf];omega
   ·obtain rfl:k=ts.length:=by omega
    have HF:Hid (l0++(ts.take ts.length).flatMap (gK l f p)=l0++(kS l p l.length).flatMap (gK l f p)):=hid (by rw [List.take_length,Lt.out]);go_wp2_with fail;go_ret;exact⟨_,rfl,by rw [<- HF.out];exact Ke.out,(Gr.of_below (b:=bv) K9.out).trans H3.out⟩
open Go.Maps
def LvJ (w:World)(z0:Nat×Nat)(bd:Nat)(J:List Lf)(ul:List Rn):Prop:=∃N B c n D G L,JF w B J [] N c z0/\ c<=1048576/\ GrpR w bd n D G L/\ outF L 8=ul/\ (∀r,L r≠[] ->0<=r/\ r<8)/\ (∀r,(L r).length<=4000)
theorem LvJ.below {w w':World}{z0:Nat×Nat}{bd:Nat}{J:List Lf}{ul:List Rn}(h:LvJ w z0 bd J ul)(hb:Below w.heap.size w w'):LvJ w' z0 bd J ul:=by
 obtain⟨N,B,c,n,D,G,L,h1,h2,h3,h4⟩:=h;exact⟨N,B,c,n,D,G,L,⟨h1.tre.below hb,h1.root,h1.there⟩,h2,h3.below hb,h4⟩
theorem LvJ.far {w w':World}{z0:Nat×Nat}{bd:Nat}{J:List Lf}{ul:List Rn}(h:LvJ w z0 bd J ul){t:Nat}{ty:TypeId}(ht:∃cs f,w.heap[t]? =some (.cells cs ty f))(hty:ty≠142)(hg:w.grownBy w' (some t)):LvJ w' z0 bd J ul:=by
 obtain⟨N,B,c,n,D,G,L,h1,h2,h3,h4⟩:=h;obtain⟨cs,f,ht⟩:=ht;refine⟨N,B,c,n,D,G,L,⟨h1.tre.same fun p x hx=>⟨hg.block _ (h1.tre.lt hx).1 (fun e=> ?_),hg.block _ (h1.tre.lt hx).2 (fun e=> ?_)⟩,h1.root,h1.there⟩,h2,h3.gr hg (fun e=> ?_) (fun r g hrg e=> ?_),h4⟩
 ·obtain⟨es,cl,ho⟩:=(h1.tre.kids p x hx).obj;injection e with e;rw [e,ht] at ho;cases ho
 ·obtain⟨es,cl,ho⟩:=(h1.tre.marks p x hx).obj;injection e with e;rw [e,ht] at ho;cases ho
 ·obtain⟨es,Ha,hb,_⟩:=h3.own;injection e with e;rw [e,ht] at hb;cases hb
 ·rcases (h3.rows r).2 with ⟨h0,_⟩|⟨g',Hb,Hc,hv,_,hb,_⟩
  ·rw [h0] at hrg;cases hrg
  ·rw [hv] at hrg;have e1:g'=g:=by simpa [Value.ownBlock] using hrg
   injection e with e;rw [e1,e,ht] at hb;injection hb with hb;injection hb with _ hb;exact hty hb
theorem far3 (w:World)(t:Nat)(u0 u1 u2:Value):w.grownBy (((w.setCell ⟨t,0,none⟩ u0).setCell ⟨t,1,none⟩ u1).setCell ⟨t,2,none⟩ u2) (some t):=by
 have g1:w.grownBy (w.setCell ⟨t,0,none⟩ u0) (some t):=grownSet w ⟨t,0,none⟩ u0;have g2:(w.setCell ⟨t,0,none⟩ u0).grownBy ((w.setCell ⟨t,0,none⟩ u0).setCell ⟨t,1,none⟩ u1) (some t):=grownSet _ ⟨t,1,none⟩ u1;have g3:((w.setCell ⟨t,0,none⟩ u0).setCell ⟨t,1,none⟩ u1).grownBy (((w.setCell ⟨t,0,none⟩ u0).setCell ⟨t,1,none⟩ u1).setCell ⟨t,2,none⟩ u2) (some t):=grownSet _ ⟨t,2,none⟩ u2;exact(g1.trans g2).trans g3
theorem jn_lvB {S S':Sx}(h:StW S.R S.F S.T S.n S.l)(h':StW S'.R S'.F S'.T S'.n S'.l)(hl:(jnS S S').l.length<=1000):LvB (jnS S S').l:=
 ⟨fun i hi=>(jn_bd h h' _ (gL_mem.2 ⟨i,hi,rfl⟩)).1,fun i hi=>(jn_bd h h' _ (gL_mem.2 ⟨i,hi,rfl⟩)).2.1,fun i hi=>(jn_bd h h' _ (gL_mem.2 ⟨i,hi,rfl⟩)).2.2.1,hl,jn_dis h h'⟩
def cat2 (n:Nat)(A B:Nat ->Int)(i:Nat):Int:=if i<n then A i else B (i - n)
theorem jn_lv {S S':Sx}(h:StW S.R S.F S.T S.n S.l)(h':StW S'.R S'.F S'.T S'.n S'.l):LvOk (cat2 S.n S.R S'.R) (cat2 S.n S.F S'.F) (cat2 S.n S.T S'.T) (S.n+S'.n) (jnS S S').l (jnS S S').l.length:=
 jn_ok h h' fun z hz=>by
  rcases hz with hz|hz
  ·obtain⟨k,hk,e1,e2,e3⟩:=jhas_at _ _ _ _ _ _ _ hz;refine hasK_yes (k:=k) (by omega) ?_;unfold cat2;rw [if_pos hk,if_pos hk,if_pos hk];exact⟨e1,e2,e3⟩
  ·obtain⟨k,hk,e1,e2,e3⟩:=jhas_at _ _ _ _ _ _ _ hz;refine hasK_yes (k:=S.n+k) (by omega) ?_;unfold cat2;rw [if_neg (by omega),if_neg (by omega),if_neg (by omega),show S.n+k - S.n=k by omega];exact⟨e1,e2,e3⟩
theorem way8 {x:Lf}(h:x.p.length<=8):(Way x).length<=8:=by unfold Way;rw [wayOf_len];exact h
def OpA (w:World)(x0:Nat×Nat)(bm:Nat)(S:Sx):Prop:=∃n D G N B,n<=2000/\ GrpAt w bm n D G (Lk S.R S.F S.T S.n)/\ Tre w B N (Mk S.l S.l.length) (9*S.l.length)/\ N []=some x0/\ NkI S.l S.l.length N
theorem OpA.below {w w':World}{x0:Nat×Nat}{bm:Nat}{S:Sx}(h:OpA w x0 bm S)(hb:Below w.heap.size w w'):OpA w' x0 bm S:=by
 obtain⟨n,D,G,N,B,h0,h1,h2,h3,h4⟩:=h;exact⟨n,D,G,N,B,h0,h1.below hb,h2.below hb,h3,h4⟩
theorem Bx3.far {w w':World}{b t:Nat}{v0 v1 v2:Value}(h:Bx3 w b v0 v1 v2)(hg:w.grownBy w' (some t))(hne:b≠t):Bx3 w' b v0 v1 v2:=h.gr hg (fun k e=>by injection e with e;omega)
theorem nk_deep {l:List Lf}{N:List Ky ->Option (Nat×Nat)}(h:NkI l l.length N)(h8:∀x∈l,x.p.length<=8):∀p,N p≠none ->p.length<=8:=fun p hp=>by
 have h1:(N p).isSome=true:=by
  cases hv:N p with
  | none=>exact absurd hv hp
  | some v=>rfl
 rcases (h p).1 h1 with e|⟨j,hj,Ha⟩
 ·rw [e];simp
 ·exact Nat.le_trans Ha.length_le (way8 (h8 _ (gL_mem.2 ⟨j,hj,rfl⟩)))
theorem nk_ah {l:List Lf}{N:List Ky ->Option (Nat×Nat)}(h:NkI l l.length N){z:List Ky}{x:Lf}(hx:x∈l)(hp:z <+:Way x):N z≠none:=fun hn=>by
 obtain⟨j,hj,e⟩:=gL_mem.1 hx;have:=(h z).2 (.inr ⟨j,hj,by rw [e];exact hp⟩);rw [hn] at this;cases this
theorem joinOpen {w0:World}{x0 y0:Nat×Nat}{bm bm':Nat}{S S':Sx}(h:OpA w0 x0 bm S)(h':OpA w0 y0 bm' S')(hs:StW S.R S.F S.T S.n S.l)(hs':StW S'.R S'.F S'.T S'.n S'.l)(w:World)(hb:Below w0.heap.size w0 w):
  Calls Tryz.prog 107 #[.agg #[.map (some x0.1),.map (some x0.2),.map (some bm)],.agg #[.map (some y0.1),.map (some y0.2),.map (some bm')]] w fun e w'=>(∃z0 N,e=.returned (.agg #[.map (some z0.1),.map (some z0.2)])/\ JF w' w.heap.size (jnS S S').l [] N (10*(9*S.l.length+9*S'.l.length)) z0)/\ Below w.heap.size w w':=by
 obtain⟨nA,D,G,N,B,zA,g1,t1,r1,n1⟩:=h;obtain⟨nB,D',G',N',B',zB,g2,t2,r2,n2⟩:=h';have ho:=hs.1;have Ha:=hs'.1;have H:JH w0 N N' (Mk S.l S.l.length) (Mk S'.l S'.l.length) (9*S.l.length) (9*S'.l.length) bm bm' (fun d=>hasK S.R S.F S.T d.1 d.2 d.2 S.n) (fun d=>hasK S'.R S'.F S'.T d.1 d.2 d.2 S'.n) (jnS S S').l:=by
  refine⟨t1.lower (Nat.zero_le _),t2.lower (Nat.zero_le _),fun w hw r q kl hk=> ?_,fun w hw r q kl hk=> ?_,fun z=>kmF_jn hs hs' z,fun z y ha=> ?_⟩
  ·have:=hasM (g1.below hw) r q (keyOf_dot_wf hk).1 (Lk_srt S.n ho.1 r).1 (Nat.le_trans (Lk_len S.R S.F S.T S.n r) (by omega));rw [in_hasK] at this;exact this
  ·have:=hasM (g2.below hw) r q (keyOf_dot_wf hk).1 (Lk_srt S'.n Ha.1 r).1 (Nat.le_trans (Lk_len S'.R S'.F S'.T S'.n r) (by omega));rw [in_hasK] at this;exact this
  ·obtain⟨x,hx,hp⟩:=ha;rcases jn_from x hx with h1|h1
   ·exact .inl (nk_ah n1 h1 hp)
   ·exact .inr (nk_ah n2 h1.1 hp)
 have hd:∀p,(N p≠none \/N' p≠none) ->p.length<=8:=fun p hp=>by
  rcases hp with hp|hp
  ·exact nk_deep n1 (fun x hx=>(st_bd hs x hx).2.2.2) p hp
  ·exact nk_deep n2 (fun x hx=>(st_bd hs' x hx).2.2.2) p hp
 have hl:=hs.2.1;have Hb:=hs'.2.1;have:=joinTreesC H hd (by omega) 8 [] rfl w hb;unfold livV at this;rw [r1,r2] at this;exact this.mono fun e w' ⟨⟨z0,N1,e1,e2⟩,b⟩=>⟨⟨z0,N1,e1,e2⟩,b⟩
theorem joinLiveC {x0 y0:Nat×Nat}{bm bm':Nat}{S S':Sx}(w:World)(h:OpA w x0 bm S)(h':OpA w y0 bm' S')(hs:StW S.R S.F S.T S.n S.l)(hs':StW S'.R S'.F S'.T S'.n S'.l):
  Calls Tryz.prog 80 #[.agg #[.map (some x0.1),.map (some x0.2),.map (some bm)],.agg #[.map (some y0.1),.map (some y0.2),.map (some bm')]] w fun e w'=>(∃z0 bd,e=.returned (.agg #[.map (some z0.1),.map (some z0.2),.map (some bd)])/\ LvJ w' z0 bd (jnS S S').l (jnU S S'))/\ Below w.heap.size w w':=by
 have ho:=hs.1;have Hc:=hs'.1;have hl:=hs.2.1;have Hr:=hs'.2.1;obtain⟨W,hW⟩:∃W,((w.alloc (.cells #[.map (some x0.1),.map (some x0.2),.map (some bm)] 69)).alloc (.cells #[.map (some y0.1),.map (some y0.2),.map (some bm')] 69)).alloc (.cells #[.map none,.map none,.map none] 69)=W:=⟨_,rfl⟩;have b0:Below w.heap.size w W:=by rw [<- hW];exact(below2 _ _ _).alloc (by simp;omega) _
 have A0:Bx3 W w.heap.size (.map (some x0.1)) (.map (some x0.2)) (.map (some bm)):=by
  rw [<- hW];exact((Bx3.made w _ _ _ _).below (zO _ _) (Bx3.made w _ _ _ _).lt).below (zO _ _) (by simp;omega)
 have B0:Bx3 W (w.heap.size+1) (.map (some y0.1)) (.map (some y0.2)) (.map (some bm')):=by
  rw [<- hW];have:=Bx3.made (w.alloc (.cells #[.map (some x0.1),.map (some x0.2),.map (some bm)] 69)) (.map (some y0.1)) (.map (some y0.2)) (.map (some bm')) 69;exact(by simpa using this:Bx3 _ (w.heap.size+1) _ _ _).below (zO _ _) (by simp)
 have R0:Bx3 W (w.heap.size+1+1) (.map none) (.map none) (.map none):=by
  rw [<- hW];simpa using Bx3.made ((w.alloc (.cells #[.map (some x0.1),.map (some x0.2),.map (some bm)] 69)).alloc (.cells #[.map (some y0.1),.map (some y0.2),.map (some bm')] 69)) (.map none) (.map none) (.map none) 69
 have Ho:=hid (fun w1 (b1:Below W.heap.size W w1)=>joinOpen (h.below b0) (h'.below b0) hs hs' w1 b1);have Hq:Hid (∀w1,Below W.heap.size W w1 ->Calls Tryz.prog 108 #[.map (some bm),.map (some bm')] w1 fun e w'=>(∃bd n D G L,e=.returned (.map (some bd))/\ GrpR w' bd n D G L/\ outF L 8=jnU S S'/\ (∀r,L r≠[] ->0<=r/\ r<8)/\ (∀r,(L r).length<=4000))/\ Below w1.heap.size w1 w'):=hid (fun w1 b1=>by
  obtain⟨nA,D,G,N,B,zA,g1,_⟩:=(h.below b0).below b1;obtain⟨nB,D',G',N',B',zB,g2,_⟩:=(h'.below b0).below b1;refine(unionM2 g1 g2 (fun r=>(Lk_srt S.n ho.1 r).1) (fun r=>(Lk_srt S'.n Hc.1 r).1) (fun r=>Nat.le_trans (Lk_len S.R S.F S.T S.n r) ho.2) (fun r=>Nat.le_trans (Lk_len S'.R S'.F S'.T S'.n r) Hc.2) (Nat.le_trans g1.size_le zA) (Nat.le_trans g2.size_le zB)).mono ?_;rintro e w3 ⟨bd,nd,D,G,L,rfl,Hz,Hi,Hd,b3⟩;refine⟨⟨bd,nd,D,G,L,rfl,Hi,(union_eq ho.1 Hc.1 Hd.s (fun r x=>Hd.done r rfl x)).symm,fun r hr=> ?_,fun r=> ?_⟩,b3⟩
  ·obtain⟨x,hx⟩:=(Hd.s r).inh hr;rcases (Hd.done r rfl x).1 hx with h|h
   ·exact Lk_rep S.n ho.1 r (In_ne h)
   ·exact Lk_rep S'.n Hc.1 r (In_ne h)
  ·have h1:=Hd.len r;have h2:=Lk_len S.R S.F S.T S.n r;have h3:=Lk_len S'.R S'.F S'.T S'.n r;omega)
 have He:=hid A0;have Hf:=hid B0;have Hm:=hid R0;have Hu:=hid b0;have Hy:Hid (∃cs f,W.heap[w.heap.size+1+1]? =some (.cells cs 69 f)):=hid (by
  rw [<- hW];have:=heap_alloc_new ((w.alloc (.cells #[.map (some x0.1),.map (some x0.2),.map (some bm)] 69)).alloc (.cells #[.map (some y0.1),.map (some y0.2),.map (some bm')] 69)) (.cells #[.map none,.map none,.map none] 69);exact⟨_,_,by simpa using this⟩)
 have Hw:=hid (And.intro hl Hr);have Hg:Hid (∀w',Below W.heap.size W w' ->(w'.cell? ⟨w.heap.size,0,none⟩=some (.map (some x0.1))/\ w'.cell? ⟨w.heap.size,1,none⟩=some (.map (some x0.2))/\ w'.cell? ⟨w.heap.size,2,none⟩=some (.map (some bm))/\ w'.cell? ⟨w.heap.size+1,0,none⟩=some (.map (some y0.1))/\ w'.cell? ⟨w.heap.size+1,1,none⟩=some (.map (some y0.2))/\ w'.cell? ⟨w.heap.size+1,2,none⟩=some (.map (some bm')))):=hid (fun w' b=>by
  have A1:=He.out.below b He.out.lt;have B1:=Hf.out.below b Hf.out.lt;exact⟨A1.c0,A1.c1,A1.c2,B1.c0,B1.c1,B1.c2⟩)
 clear A0 B0 R0 b0 h h' hs hs' ho Hc hl Hr;go_enter Tryz.func80,Tryz.ntmps80;go_wp2_with fail;try rw [hW]
 clear hW;refine zR (S:=fun w'=>w'.cell? ⟨w.heap.size,0,none⟩=some (.map (some x0.1))/\ w'.cell? ⟨w.heap.size,1,none⟩=some (.map (some x0.2))/\ w'.cell? ⟨w.heap.size,2,none⟩=some (.map (some bm))/\ w'.cell? ⟨w.heap.size+1,0,none⟩=some (.map (some y0.1))/\ w'.cell? ⟨w.heap.size+1,1,none⟩=some (.map (some y0.2))/\ w'.cell? ⟨w.heap.size+1,2,none⟩=some (.map (some bm'))) (Hg.out _ zI.drew) (fun qh=> ?_);refine tZ 0 5 ?_;refine tZ 1 6 ?_;refine tZ 3 8 ?_;refine tZ 4 9 ?_;refine tZ 5 10 ?_;refine tZ 6 11 ?_;refine cZ 2 ?_;intro K hK;go_simp;refine(Ho.out _ zI.drew).mono ?_;rintro e w1 ⟨⟨z0,N,rfl,jf⟩,b1⟩;have Hh:Below W.heap.size W w1:=⟨b1.os,b1.tape,b1.output,b1.size,b1.block⟩;have Hl:=hid jf;clear jf;refine hK.out _ _ (Hg.out _ Hh) (fun qh=> ?_);clear hK K;try simp only [zP]
 refine cZ 7 ?_;intro K hK;go_simp;refine(Hq.out _ Hh).mono ?_;rintro e w2 ⟨⟨bd,nd,D,G,L,rfl,Hi,Hs,Ht,Hb⟩,b2⟩;have Ha:=keepS Hh b2;have R2:=Hm.out.below Ha Hm.out.lt;have Hx:Hid (LvJ w2 z0 bd (jnS S S').l (jnU S S')):=hid ⟨N,_,_,nd,D,G,L,⟨Hl.out.tre.below b2,Hl.out.root,Hl.out.there⟩,by have:=Hw.out;omega,Hi,Hs,Ht,Hb⟩;clear Hi Hs Ht Hb;refine hK.out _ _ (Hg.out _ Ha) (fun qh=> ?_);clear hK K;try simp only [zP]
 refine tZ 8 13 ?_;have t0:=R2.c0;have t1:=R2.c1;have t2:=R2.c2;have tf:=R2.f;have Hn:=hid (R2.set (.map (some z0.1)) (.map (some z0.2)) (.map (some bd)));have Hj:=hid ((He.out.below Ha He.out.lt).far (far3 w2 (w.heap.size+1+1) (.map (some z0.1)) (.map (some z0.2)) (.map (some bd))) (by omega));have Hk:=hid ((Hf.out.below Ha Hf.out.lt).far (far3 w2 (w.heap.size+1+1) (.map (some z0.1)) (.map (some z0.2)) (.map (some bd))) (by omega));have Hp:=hid (Hx.out.far (t:=w.heap.size+1+1) (by obtain⟨cs,f,e⟩:=Hy.out;exact⟨cs,f,(Ha.block _ Hm.out.lt).trans e⟩) (by decide) (far3 w2 (w.heap.size+1+1) (.map (some z0.1)) (.map (some z0.2)) (.map (some bd))));have Hv:=hid (keepS Hu.out Ha);refine cZ 9 ?_;intro K hK;go_simp;refine hK.out _ _ ⟨Hj.out.c0,Hj.out.c1,Hj.out.c2,Hk.out.c0,Hk.out.c1,Hk.out.c2⟩ (fun qh=> ?_);clear hK K;try simp only [zP]
 refine zD ?_;clear qh b1 Hh b2 Ha R2 t0 t1 t2 tf Hg Ho Hq;go_wp2_with fail;have s0:=Hn.out.c0;have s1:=Hn.out.c1;have s2:=Hn.out.c2;refine zF (v:=.agg #[.map (some z0.1),.map (some z0.2),.map (some bd)]) (by simp [results,Tryz.results80,go_sem,s0,s1,s2]) ?_;first|refine⟨⟨z0.1,z0.2,bd,rfl,Hp.out⟩,?_⟩|refine⟨⟨z0,bd,rfl,Hp.out⟩,?_⟩
 exact((Hv.out.setCell (by simp;omega) _).setCell (by simp;omega) _).setCell (by simp;omega) _
theorem withinC {z0:Nat×Nat}{bd:Nat}{J:List Lf}{ul:List Rn}(w:World)(h:LvJ w z0 bd J ul)(hd:Dis J J.length)(h8:∀x∈J,x.p.length<=8)(hJ:J.length<=1048576)(hu:ul.length<=1048576):
  Calls Tryz.prog 81 #[.agg #[.map (some z0.1),.map (some z0.2),.map (some bd)]] w fun e w'=>e=.returned (.bool (decide (J.length<=1000) && decide (ul.length<=1000)))/\ Below w.heap.size w w':=by
 obtain⟨W,hW⟩:∃W,w.alloc (.cells #[.map (some z0.1),.map (some z0.2),.map (some bd)] 69)=W:=⟨_,rfl⟩;have b0:Below w.heap.size w W:=by rw [<- hW];exact zO _ _
 have X0:Bx3 W w.heap.size (.map (some z0.1)) (.map (some z0.2)) (.map (some bd)):=by rw [<- hW];exact Bx3.made _ _ _ _ _
 obtain⟨N,B,c,n,D,G,L,h1,h2,h3,h4,h5,h6⟩:=h.below b0;have Hc:=hid (countC (h1.tj hd) h2 hJ (fun x hx=>way8 (h8 x hx)) 8 [] z0 rfl h1.root W zI);rw [cW_all] at Hc;have Ha:=hid (fun w1 (b1:Below W.heap.size W w1)=>countM2 (h3.below b1) h5 h6);rw [h4] at Ha;have Hd:=hid b0;have HX:=hid X0;have k0:=X0.c0;have k1:=X0.c1;obtain⟨m,hm⟩:∃m,J.length=m:=⟨_,rfl⟩;obtain⟨u,Hg⟩:∃u,ul.length=u:=⟨_,rfl⟩;rw [hm] at Hc hJ ⊢;rw [Hg] at Ha hu ⊢;obtain⟨V,hV⟩:∃V,(decide (m<=1000) && decide (u<=1000))=V:=⟨_,rfl⟩;rw [hV];have HV:=hid hV;clear b0 X0 h h1 h2 h3 h4 h5 h6 hd h8 hm Hg hV;by_cases e1:m<=1000
 ·have i1:(m:Int)<=1000:=by omega
  by_cases e2:u<=1000
  ·have i2:(u:Int)<=1000:=by omega
   have HG:Hid (V=true):=hid (by rw [<- HV.out];simp [e1,e2]);go_enter Tryz.func81,Tryz.ntmps81;go_wp2_with fail;try rw [hW]
   clear hW;refine Hc.out.mono ?_;rintro e w1 ⟨rfl,b1⟩;have k2:=(HX.out.below b1 HX.out.lt).c2;have Hb:=hid (keepS Hd.out b1);have Hf:=hid (Ha.out w1 b1);clear b1 Ha;go_wp2_with fail;refine Hf.out.mono ?_;rintro e w2 ⟨rfl,b2⟩;have He:=hid (keepS Hb.out b2);clear b2;go_wp2_with fail;go_ret;exact⟨ret_b HG.out.symm,He.out⟩
  ·have i2:¬(u:Int)<=1000:=by omega
   have i3:decide ((u:Int)<=1000)=false:=by simpa using i2
   have HG:Hid (V=false):=hid (by rw [<- HV.out];simp [e2]);go_enter Tryz.func81,Tryz.ntmps81;go_wp2_with fail;try rw [hW]
   clear hW;refine Hc.out.mono ?_;rintro e w1 ⟨rfl,b1⟩;have k2:=(HX.out.below b1 HX.out.lt).c2;have Hb:=hid (keepS Hd.out b1);have Hf:=hid (Ha.out w1 b1);clear b1 Ha;go_wp2_with fail;refine Hf.out.mono ?_;rintro e w2 ⟨rfl,b2⟩;have He:=hid (keepS Hb.out b2);clear b2;go_wp2_with fail;go_ret;exact⟨ret_b HG.out.symm,He.out⟩
 ·have i1:¬(m:Int)<=1000:=by omega
  have i3:decide ((m:Int)<=1000)=false:=by simpa using i1
  have HG:Hid (V=false):=hid (by rw [<- HV.out];simp [e1]);go_enter Tryz.func81,Tryz.ntmps81;go_wp2_with fail;try rw [hW]
  clear hW;refine Hc.out.mono ?_;rintro e w1 ⟨rfl,b1⟩;have Hb:=hid (keepS Hd.out b1);clear b1 Ha;go_wp2_with fail;go_ret;exact⟨ret_b HG.out.symm,Hb.out⟩
theorem GrpAt.stepS {w w1 w2 w3:World}{bm n:Nat}{D:DataW Value}{G:Int ->Value}{L:Int ->List (Int×Int)}{v':Value}{r:Int}{l':List (Int×Int)}(h:GrpAt w bm n D G L)
  (hb:Below w.heap.size w w1) (hown:SR w2 (bm+1) v' l') (hne:l'≠[])
  (hgr:Gr w1 w2 (G r) v')
  (hD:w3.ownsMap Tryz.prog 3 rawR bm (n+1) (D.put (kI r) (.held v'))) (hgr3:w2.grownBy w3 (some bm)):
  GrpAt w3 bm (n+1) (D.put (kI r) (.held v')) (upd G r v') (upd L r l'):=by
 have h1:=h.below hb;have nb:∀(w:World) (v:Value) (m:Nat) (xs:List Value),w.ownsRow (bm+1) 142 2 v m xs ->v.ownBlock=none \/v.ownBlock≠some bm:=by
  intro w v m xs ho;cases e:v.ownBlock with
  | none=>exact .inl rfl
  | some g=>exact .inr (fun e2=>by have:=(ho.lt g e).1;injection e2 with e2;omega)
 refine⟨hD,fun x=> ?_,fun x=> ?_,fun x=> ?_,?_⟩
 ·by_cases e:x=r
  ·subst e;rw [upd_same,atKey_put_same h.own.isMap (show WideAt.IsKeyLit (kI x) from trivial)]
  ·rw [upd_other G v' e,atKey_put_other (kI_ne e)];exact h.at' x
 ·by_cases e:x=r
  ·subst e;rw [upd_same,has_put_same h.own.isMap (show WideAt.IsKeyLit (kI x) from trivial)];cases l' with
   | nil=>exact absurd rfl hne
   | cons a b=>rfl
  ·rw [upd_other L _ e,has_put_other (kI_ne e)];exact h.has' x
 ·by_cases e:x=r
  ·subst e;rw [upd_same,upd_same];exact World.ownsRow.kept hown hgr3 (nb _ _ _ _ hown)
  ·rw [upd_other G v' e,upd_other L _ e];have hx:=h1.rows x;have hk:(G x).ownBlock=none \/(G x).ownBlock≠(G r).ownBlock:=by
    cases e1:(G x).ownBlock with
    | none=>exact .inl rfl
    | some g=>exact .inr (fun e2=>e (h.apart x r g e1 e2.symm))
   have h2:=hx.kept hgr.g hk;exact h2.kept hgr3 (nb _ _ _ _ h2)
 ·intro x y g hx hy;have Hc:∀z,z≠r ->∀g,(G z).ownBlock=some g ->v'.ownBlock=some g ->False:=by
   intro z hz g Hb Ha;rcases hgr.l with hl|⟨k,hl,hk⟩
   ·exact hz (h.apart z r g Hb (hl ▸ Ha))
   ·rw [hl] at Ha;have a1:=((h.rows z).lt g Hb).2;have a2:=hb.size;injection Ha with Ha;omega
  by_cases ex:x=r
  ·subst ex;rw [upd_same] at hx;by_cases ey:y=x
   ·exact ey.symm
   ·rw [upd_other G v' ey] at hy;exact(Hc y ey g hy hx).elim
  ·rw [upd_other G v' ex] at hx;by_cases ey:y=r
   ·subst ey;rw [upd_same] at hy;exact(Hc x ex g hx hy).elim
   ·rw [upd_other G v' ey] at hy;exact h.apart x y g hx hy
structure RdI (L:Int ->List (Int×Int))(ds:List Dt):Prop where
 srt:∀r,Srt (L r)
 mem:∀r x,In (L r) x↔(r,x)∈ds
 last:∀r,∀q∈L r,∃d∈ds,d.1=r/\ q.2=d.2
 len:∀r,(L r).length<=ds.length
theorem RdI.nil:RdI (fun _=>[]) []:=⟨fun _=>⟨List.Pairwise.nil,fun p h=>(by cases h)⟩,fun r x=>by simp [In],fun r q h=>(by cases h),fun r=>by simp⟩
theorem nil_or_snoc {α:Type}(l:List α):l=[] \/∃l' q,l=l'++[q]:=by
 rcases List.eq_nil_or_concat l with h|⟨l',q,h⟩
 ·exact .inl h
 ·exact .inr ⟨l',q,by rw [h];simp⟩
theorem appS_len (l:List (Int×Int))(p:Int×Int):(appS l p).length<=l.length+1/\ appS l p≠[]:=by
 rcases nil_or_snoc l with rfl|⟨l,q,rfl⟩
 ·simp [appS_nil]
 ·by_cases h:q.2+1<p.1
  ·rw [appS_gap h];simp
  ·rw [appS_up h];simp
theorem appS_last {l:List (Int×Int)}{p:Int×Int}:∀q∈appS l p,q∈l \/q.2=p.2 \/∃q'∈l,q.2=q'.2:=by
 rcases nil_or_snoc l with rfl|⟨l,q,rfl⟩
 ·intro q hq;rw [appS_nil] at hq;rw [List.mem_singleton.1 hq];exact .inr (.inl rfl)
 ·intro u hu;by_cases h:q.2+1<p.1
  ·rw [appS_gap h] at hu;rcases List.mem_append.1 hu with hu|hu
   ·exact .inl hu
   ·rw [List.mem_singleton.1 hu];exact .inr (.inl rfl)
  ·rw [appS_up h] at hu;rcases List.mem_append.1 hu with hu|hu
   ·exact .inl (List.mem_append_left _ hu)
   ·rw [List.mem_singleton.1 hu];rcases Int.le_total q.2 p.2 with e|e
    ·exact .inr (.inl (by simp only;omega))
    ·exact .inr (.inr ⟨q,by simp,by simp only;omega⟩)
theorem RdI.step {L:Int ->List (Int×Int)}{ds:List Dt}{d:Dt}(h:RdI L ds)(hd:1<=d.2/\ d.2<=1000000000)(hle:∀e∈ds,e.1=d.1 ->e.2<=d.2):RdI (upd L d.1 (appS (L d.1) (d.2,d.2))) (ds++[d]):=by
 have Ha:∀q∈L d.1,q.1<=d.2:=fun q hq=>by
  obtain⟨e,he,e1,e2⟩:=h.last d.1 q hq;have:=hle e he e1;have:=((h.srt d.1).2 q hq);omega
 have ho:=appS_ok (p:=(d.2,d.2)) (h.srt d.1) ⟨hd.1,Int.le_refl _,hd.2⟩ Ha;refine⟨fun r=> ?_,fun r x=> ?_,fun r q hq=> ?_,fun r=> ?_⟩
 ·by_cases e:r=d.1
  ·rw [e,upd_same];exact ho.1
  ·rw [upd_other L _ e];exact h.srt r
 ·by_cases e:r=d.1
  ·rw [e,upd_same,ho.2.1 x,h.mem,List.mem_append,List.mem_singleton];refine or_congr Iff.rfl ⟨fun hx=> ?_,fun hx=> ?_⟩
   ·simp only at hx;exact Prod.ext rfl (by simp only;omega)
   ·have:=congrArg Prod.snd hx;simp only at this ⊢;omega
  ·rw [upd_other L _ e,h.mem,List.mem_append,List.mem_singleton];exact⟨.inl,fun hx=>hx.resolve_right (fun e2=>e (congrArg Prod.fst e2))⟩
 ·by_cases e:r=d.1
  ·rw [e,upd_same] at hq;rcases appS_last q hq with h1|h1|⟨q',h1,h2⟩
   ·obtain⟨u,hu,e1,e2⟩:=h.last d.1 q h1;exact⟨u,List.mem_append_left _ hu,e1.trans e.symm,e2⟩
   ·exact⟨d,by simp,e.symm,h1⟩
   ·obtain⟨u,hu,e1,e2⟩:=h.last d.1 q' h1;exact⟨u,List.mem_append_left _ hu,e1.trans e.symm,h2.trans e2⟩
  ·rw [upd_other L _ e] at hq;obtain⟨u,hu,e1,e2⟩:=h.last r q hq;exact⟨u,List.mem_append_left _ hu,e1,e2⟩
 ·rw [List.length_append];by_cases e:r=d.1
  ·rw [e,upd_same];have:=(appS_len (L d.1) (d.2,d.2)).1;have:=h.len d.1;simp;omega
  ·rw [upd_other L _ e];have:=h.len r;omega
end Go.Proofs.YtfidfeilljlbiaaGreat
