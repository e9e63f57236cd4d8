import Derived.Test.YtcbcabhjododoaaGreatFg27
import Derived.Test.YtcbcabhjododoaaGreatFg20
import Derived.Test.YtcbcabhjododoaaGreatFg25
set_option linter.unusedVariables false
set_option linter.unusedSimpArgs false
set_option maxRecDepth 100000
set_option maxHeartbeats 40000000
namespace Go.Proofs.YtcbcabhjododoaaGreat.Ds
open Go.ChangeShapes Go.WideShapes Go.ChangeAt Go.RowKit Go.Maps Go.Sort Go.Lib Go.Shelf
theorem keysItK (n l Bm b nn : Nat) (f : Dt → Option ByteArray) (D0 : DataW Value) (J : List Dt → World → Prop) (hn : 1 ≤ n)
  (hY : ∀ pre x W, J pre W → pre.length < Maps.size D0 → YieldAt Fence.wide (n - 1) Tryz.prog l #[dtV x] W fun e W' => e = .returned (.bool true) ∧ J (pre ++ [x]) W' ∧ KeepsWalks W W')
  (W : World) (hJ : AbidesFrom W.heap.size J) (hm : W.cell? ⟨Bm, 0, none⟩ = some (.map (some b))) (hF : FM W 55 dtV mrkV b nn f D0) (h0 : J [] W) :
  CallsIn Fence.wide n Tryz.prog 108 #[.func (.yield l) #[] #[], .pointer (some ⟨Bm, 0, none⟩)] W fun e W' => (∃ v, e = .returned v) ∧ ∃ ss, KeysF f ss ∧ J ss W' := by
 have hown := hF.own
 have HF := hid hF
 have HJ := hid hJ
 have HY := hid hY
 clear hF hJ hY
 refine callsIn_of_wp Tryz.func108 rfl trivial ?_ rfl
 simp only [Tryz.ntmps108, List.size_toArray, List.length_cons, List.length_nil, Nat.reduceAdd, Nat.reduceSub, Array.replicate_succ, Array.replicate_zero, List.push_toArray, List.append_toArray, List.nil_append, List.cons_append]
 gi_wp2_with (first
  | (gi_at_range; refine wpListIn_range_own _ rfl _ 62 rfl 55 80 dotKeyed Tryz.underlying62 _ b nn _ rfl hown ?_; intro w0 hrg0 hg0 hs0)
  | gi_in)
 try go_frame
 gi_loopw [3] (fun _ wr => ∃ (left : Lit → Bool) (cnt : Nat) (ss : List Dt), wr.ranges Tryz.prog 55 allR b W.heap.size nn D0 left cnt ∧ ss.length + cnt ≤ Maps.size D0 ∧ CollF 55 dtV f left ss ∧ J ss wr)
  (fun _ wr => wr.rangeLeft b W.heap.size)
 case atStart => exact ⟨_, _, [], hrg0, by simp, CollF.start HF.out, HJ.out [] W w0 none h0 hg0 (fun r e => by cases e)⟩
 case round =>
  obtain ⟨left, cnt, ss, hrg, hcs, hC, hJs⟩ := hrel
  have HC := hid hC
  have HCS := hid hcs
  clear hC hcs
  gi_wp2_with (first
   | (gi_at_next; refine wpListIn_next_ranges _ rfl _ rfl 55 dotKeyed allR dtV id (fun key kl hk => keyOf_dot hk) (fun v _ _ => ⟨v, rfl⟩) b W.heap.size nn _ _ _ rfl hrg ?_ ?_)
   | gi_in)
  ·intro hc0 hl0
   gi_wp2
   go_end0
   exact ⟨⟨_, rfl⟩, ss, HC.out.done HF.out hl0, hJs⟩
  ·intro xs xk c kl yd yp w2 cnt2 hkey hlk hv hat hrg2 hlt hg2 hs2 hen
   have hJ2 : J ss w2 := HJ.out ss wr w2 (some W.heap.size) hJs hg2 (fun r e => by cases e; exact ⟨Nat.le_refl _, hrg.iter_walk⟩)
   obtain ⟨w3, hw3⟩ : ∃ w3, w2.alloc (.cells #[.int .i64 xs, .int .i64 xk] 55) = w3 := ⟨_, rfl⟩
   have hJ3 : J ss w3 := by rw [← hw3]; exact HJ.out ss w2 _ none hJ2 (World.grownBy_alloc w2 _ none) (fun r e => by cases e)
   obtain ⟨fn, tmps, assign, body, hy, hR⟩ := HY.out ss (xs, xk) w3 hJ3 (by have := HCS.out; omega)
   have K3 : Bx2 w3 w2.heap.size (.int .i64 xs) (.int .i64 xk) := by rw [← hw3]; exact Bx2.made _ _ _ _
   have hrg3 := hrg2.alloc (.cells #[.int .i64 xs, .int .i64 xk] 55)
   rw [hw3] at hrg3
   have q0 := K3.c0
   have q1 := K3.c1
   clear hs2 K3
   dsimp only [dtV, dotV] at hen hy hR ⊢
   gi_wp2
   try rw [hw3]
   refine hR.mono ?_
   rintro e W3 ⟨rfl, hJ4, hk3⟩
   gi_wp2
   have hrg4 := hrg3.of_walks hk3
   go_roundw
   case rel => exact ⟨_, cnt2, ss ++ [(xs, xk)], hrg4, by have := HCS.out; simp; omega, HC.out.step HF.out dotKeyed (fun _ _ => dtV_inj) hkey hlk hat, hJ4⟩
   case measure => rw [hrg4.left_eq, hrg.left_eq]; exact hlt
def kCells (x : Dt) : List Value := [.int .i64 x.1, .int .i64 x.2]
def kRow (ss : List Dt) : List Value := ss.flatMap kCells
theorem kRow_snoc (ss : List Dt) (x : Dt) : kRow (ss ++ [x]) = kRow ss ++ kCells x := by simp [kRow]
theorem infoDt : (Tryz.prog.info? 55).map (fun i => (i.zero, i.size, i.bytes)) = some (some (.agg #[.int .i64 0, .int .i64 0]), 2, 16) := by kernel_rfl
def apA : Code := (Code.region 2 #[{ dst := some 5, op := Op.alloc 55, type := 0, pos := "iter.go:51", after := #[], guard := none }, { dst := none, op := Op.store 55 (Operand.tmp 5) (Operand.tmp 7), type := 0, pos := "iter.go:51", after := #[{ on := 0, ground := Ground.data }, { on := 0, ground := Ground.phase }], guard := none }] false)
def apB : Code := (Code.block 1 (Code.region 3 #[{ dst := some 8, op := Op.load 102 (Operand.tmp 2), type := 102, pos := "iter.go:52", after := #[], guard := none }, { dst := some 9, op := Op.load 55 (Operand.tmp 5), type := 55, pos := "iter.go:52", after := #[], guard := none }, { dst := some 10, op := Op.buildSlice 102 1 #[(0, Operand.tmp 9)], type := 102, pos := "iter.go:52", after := #[{ on := 1, ground := Ground.data }], guard := none }, { dst := some 11, op := Op.call { callee := Callee.builtin Builtin.append, args := #[Operand.tmp 8, Operand.tmp 10], argTypes := #[102, 102] }, type := 102, pos := "iter.go:52", after := #[{ on := 0, ground := Ground.data }, { on := 2, ground := Ground.data }], guard := none }, { dst := none, op := Op.store 102 (Operand.tmp 2) (Operand.tmp 11), type := 0, pos := "iter.go:52", after := #[{ on := 3, ground := Ground.data }, { on := 3, ground := Ground.chain }, { on := 0, ground := Ground.phase }, { on := 1, ground := Ground.phase }, { on := 2, ground := Ground.phase }, { on := 3, ground := Ground.phase }], guard := none }] false))
def apRec (fn : FuncId) (sv : Value) (Bs D : Nat) (st : LoopState) : Loop :=
 { state := st, pending := none, fn, tmps := #[.slice none 0 0, sv, .pointer (some ⟨Bs, 0, none⟩), undef, .slice none 0 0, undef, sv, undef, undef, undef, undef, undef, undef], params := #[7], assign := apA, body := apB, defers := D }
structure ApAt (w0 : World) (fn : FuncId) (sv : Value) (Bs l D : Nat) (ss : List Dt) (W : World) : Prop where
 box : ∃ v, W.heap[Bs]? = some (.cells #[v] 102 (0, 0)) ∧ W.ownsRow w0.heap.size 55 2 v ss.length (kRow ss) ∧ (v = .slice none 0 0 ↔ ss = [])
 L : W.heap[l]? = some (.loop (apRec fn sv Bs D .ready))
 K : W.heap[D]? = some (.deferred (some []))
 below : RowKit.Below w0.heap.size w0 W
theorem ap_abides (w0 : World) (fn : FuncId) (sv : Value) (Bs l D B : Nat) (hB : w0.heap.size ≤ B) : AbidesFrom B (ApAt w0 fn sv Bs l D) := fun s W W' row h hg hrow => by
 have hrow' : ∀ r, row = some r → ∃ o : Obj, W.heap[r]? = some o ∧ o.isWalk = true := fun r e => (hrow r e).2
 obtain ⟨v, hv, hr, hn⟩ := h.box
 exact ⟨⟨v, (grownBy_keeps hg hrow' hv rfl).trans hv, ownsRow_abides_a hr hg hrow', hn⟩, (grownBy_keeps hg hrow' h.L rfl).trans h.L, (grownBy_keeps hg hrow' h.K rfl).trans h.K, h.below.grown hg h.below.size (fun k e => Nat.le_trans hB (hrow k e).1)⟩
theorem apYieldK (m : Nat) (w0 : World) (fn : FuncId) (sv : Value) (Bs l D : Nat) (hBl : Bs ≠ l) (hDl : D ≠ l) (hDB : D ≠ Bs) (h0B : w0.heap.size ≤ Bs) (h0l : w0.heap.size ≤ l)
    (N : Nat) (hN : N ≤ maxLen) (hNb : N * 16 ≤ 140737488355328) (ss : List Dt) (x : Dt) (W : World) (h : ApAt w0 fn sv Bs l D ss W) (hlen : ss.length < N) :
    YieldAt Fence.wide m Tryz.prog l #[dtV x] W fun e W' => e = .returned (.bool true) ∧ ApAt w0 fn sv Bs l D (ss ++ [x]) W' ∧ KeepsWalks W W' := by
  have hne : 102 ≠ 55 := by decide
  obtain ⟨i0, hi, hz0, hz1, hz2⟩ := info_parts infoDt
  refine ⟨fn, #[.slice none 0 0, sv, .pointer (some ⟨Bs, 0, none⟩), undef, .slice none 0 0, undef, sv, dtV x, undef, undef, undef, undef, undef], apA, apB, by simpa [apRec] using run_yield (P := Tryz.prog) (args := #[dtV x]) h.L rfl, roundIn_of_wpIn trivial ?_⟩
  obtain ⟨xs, xk⟩ := x
  obtain ⟨W1, hW1⟩ : ∃ W1, W.alloc (.cells #[.int .i64 xs, .int .i64 xk] 55) = W1 := ⟨_, rfl⟩
  have h1 : ApAt w0 fn sv Bs l D ss W1 := by rw [← hW1]; exact ap_abides w0 fn sv Bs l D w0.heap.size (Nat.le_refl _) ss W _ none h (World.grownBy_alloc W _ none) (fun r e => by cases e)
  have hk1 : KeepsWalks W W1 := by rw [← hW1]; exact KeepsWalks.alloc _ _
  have X1 : Bx2 W1 W.heap.size (.int .i64 xs) (.int .i64 xk) := by rw [← hW1]; exact Bx2.made _ _ _ _
  have hlW : l < W.heap.size := (Array.getElem?_eq_some_iff.1 h.L).1
  obtain ⟨v, hv, hrow, _⟩ := h1.box
  have hl : l < W1.heap.size := (Array.getElem?_eq_some_iff.1 h1.L).1
  have hbr := run_beginRound (P := Tryz.prog) h1.L rfl
  obtain ⟨W2, hW2⟩ : ∃ W2, W1.putObj l (.loop { apRec fn sv Bs D .ready with state := .busy }) = W2 := ⟨_, rfl⟩
  rw [hW2] at hbr
  have hg2 : W1.grownBy W2 (some l) := by rw [← hW2]; exact grownBy_putObj_a _ _ _
  have hk2 : KeepsWalks W W2 := hk1.trans (by rw [← hW2]; exact KeepsWalks.putObj _ h1.L rfl)
  have hv2 : W2.heap[Bs]? = some (.cells #[v] 102 (0, 0)) := by rw [← hW2]; exact (World.putObj_heap_other hBl).trans hv
  have hK2 : W2.heap[D]? = some (.deferred (some [])) := by rw [← hW2]; exact (World.putObj_heap_other hDl).trans h1.K
  have hL2 : W2.heap[l]? = some (.loop { apRec fn sv Bs D .ready with state := .busy }) := by rw [← hW2]; exact World.putObj_heap_same hl
  have hrow2 : W2.ownsRow w0.heap.size 55 2 v ss.length (kRow ss) := hrow.kept hg2 (ownsRow_ne_a hrow h1.L (fun cur e => by cases e))
  have hb2 : RowKit.Below w0.heap.size w0 W2 := h1.below.grown hg2 h1.below.size (fun k e => by cases e; exact h0l)
  have e2 : W2.heap[W.heap.size]? = W1.heap[W.heap.size]? := hg2.block _ X1.lt (fun e => by injection e with e; omega)
  have q0 : W2.cell? ⟨W.heap.size, 0, none⟩ = some (.int .i64 xs) := (World.cell?_of_block (a := ⟨W.heap.size, 0, none⟩) e2).trans X1.c0
  have q1 : W2.cell? ⟨W.heap.size, 1, none⟩ = some (.int .i64 xk) := (World.cell?_of_block (a := ⟨W.heap.size, 1, none⟩) e2).trans X1.c1
  obtain ⟨hc2, hf2⟩ := cell_of_box_a hv2
  have hBlt : Bs < W2.heap.size := (Array.getElem?_eq_some_iff.1 hv2).1
  have hl2 : l < W2.heap.size := (Array.getElem?_eq_some_iff.1 hL2).1
  have hDlt : D < W2.heap.size := (Array.getElem?_eq_some_iff.1 hK2).1
  have ne_of : ∀ {j : Nat} {o : Obj}, W2.heap[j]? = some o → (∀ cur, o ≠ .cells cur 55 (0, 0)) → some j ≠ v.ownBlock := fun hj hno => by
    rcases ownsRow_ne_a hrow2 hj hno with e | e
    · rw [e]; simp
    · exact fun e' => e e'.symm
  have HR2 := hid hrow2
  have HZ := hid hb2.size
  clear hW2 hrow hrow2 X1 e2 hg2 hk1
  unfold apA
  dsimp only [dtV, dotV]
  gi_wp2_with gi_round_op_a
  unfold apB
  gi_wp2_with (first
    | (gi_at_builtin; refine wpListIn_append_own _ rfl _ _ 102 rfl w0.heap.size 55 i0 (.agg #[.int .i64 0, .int .i64 0]) 2 16 Tryz.underlying102 hi hz0 hz1 hz2 rfl (by decide) _ _ _ rfl (HR2.out.alloc _) ⟨W2.heap.size, 0, none⟩ 1 1 [.int .i64 xs, .int .i64 xk] rfl rfl (cell_two_new _ _ _ _) (by simp [Value.oneCell']) (by omega) (by omega) (by have := HZ.out; simp; omega) ?_; intro v' w3 hown' hg3 hnil3
       have hv3 : w3.heap[Bs]? = some (.cells #[v] 102 (0, 0)) := (hg3.block Bs (by simp; omega) (ne_of hv2 (fun cur e => hne (Obj.cells.inj e).2.1))).trans ((Below.heap_alloc _ _ Bs hBlt).trans hv2)
       obtain ⟨hc3, hf3⟩ := cell_of_box_a hv3
       obtain ⟨g', cap', cur', rfl, hbase', hgb', hr1, hr2, hr3, hr4⟩ : ∃ g' cap' cur', v' = .slice (some ⟨g', 0, none⟩) (ss.length + 1) cap' ∧ w0.heap.size ≤ g' ∧ w3.heap[g']? = some (.cells cur' 55 (0, 0)) ∧ ss.length + 1 ≤ cap' ∧ cap' ≤ maxLen ∧ cur'.size = cap' * 2 ∧ cur'.toList.take ((ss.length + 1) * 2) = kRow ss ++ [.int .i64 xs, .int .i64 xk] := by
         rcases hown'.2 with ⟨_, h0⟩ | h'
         · exact absurd h0 (by omega)
         · exact h'
       have HOW := hid hown'
       clear hown'
       try go_frame)
    | gi_round_op_a)
  have hg3' : (W2.alloc (.cells #[.int .i64 xs, .int .i64 xk] 55)).grownBy w3 v.ownBlock := hg3
  have hL3 : w3.heap[l]? = some (.loop { apRec fn sv Bs D .ready with state := .busy }) := (hg3'.block l (by simp; omega) (ne_of hL2 (fun cur e => by cases e))).trans ((Below.heap_alloc _ _ l hl2).trans hL2)
  have hK3 : w3.heap[D]? = some (.deferred (some [])) := (hg3'.block D (by simp; omega) (ne_of hK2 (fun cur e => by cases e))).trans ((Below.heap_alloc _ _ D hDlt).trans hK2)
  obtain ⟨w4, hw4⟩ : ∃ w4, w3.setCell ⟨Bs, 0, none⟩ (.slice (some ⟨g', 0, none⟩) (ss.length + 1) cap') = w4 := ⟨_, rfl⟩
  rw [hw4]
  have hg4 : w3.grownBy w4 (some Bs) := by rw [← hw4]; exact grownBy_setCell0_a _ _ _
  have hv4 : w4.heap[Bs]? = some (.cells #[.slice (some ⟨g', 0, none⟩) (ss.length + 1) cap'] 102 (0, 0)) := by rw [← hw4]; exact heap_setCell_box_a _ hv3
  have hL4 : w4.heap[l]? = some (.loop { apRec fn sv Bs D .ready with state := .busy }) := (hg4.block l (Array.getElem?_eq_some_iff.1 hL3).1 (fun e => hBl (by cases e; rfl))).trans hL3
  have hK4 : w4.heap[D]? = some (.deferred (some [])) := (hg4.block D (Array.getElem?_eq_some_iff.1 hK3).1 (fun e => hDB (by cases e; rfl))).trans hK3
  have hrow4 := HOW.out.kept hg4 (ownsRow_ne_a HOW.out hv3 (fun cur e => hne (Obj.cells.inj e).2.1))
  have hl4 : l < w4.heap.size := (Array.getElem?_eq_some_iff.1 hL4).1
  have hb3 : RowKit.Below w0.heap.size w0 w3 := (hb2.alloc hb2.size _).grown hg3' (by have := hb2.size; simp; omega) (fun k e => (HR2.out.lt k e).1)
  have hb4 : RowKit.Below w0.heap.size w0 w4 := hb3.grown hg4 hb3.size (fun k e => by cases e; exact h0B)
  have hk4 : KeepsWalks W w4 := ((hk2.trans (KeepsWalks.alloc _ _)).trans (KeepsWalks.of_grownBy hg3' (ownsRow_not_walk_a (HR2.out.alloc _)))).trans (by rw [← hw4]; exact KeepsWalks.setCell _ _ _)
  clear hw4
  refine ⟨_, _, run_endRound none hL4, rfl, ⟨⟨_, (World.putObj_heap_other hBl).trans hv4, ?_, by simp⟩, World.putObj_heap_same hl4, (World.putObj_heap_other hDl).trans hK4, hb4.grown (grownBy_putObj_a _ _ _) hb4.size (fun k e => by cases e; exact h0l)⟩, hk4.trans (KeepsWalks.putObj _ hL4 rfl)⟩
  have := hrow4.kept (grownBy_putObj_a w4 l (.loop { { apRec fn sv Bs D .ready with state := .busy } with state := if (none : Option Code).isNone then .ready else .done, pending := none })) (ownsRow_ne_a hrow4 hL4 (fun cur e => by cases e))
  rw [kRow_snoc]
  simpa [kCells] using this
theorem appendSeqK (n : Nat) (hn : 2 ≤ n) (g : Nat) (lb : Array Value) (eg : ∀ args w, (callFunc g args).run Tryz.prog w = .ok (.enter g args) w)
  (S : List Dt → Prop) (N : Nat) (hN : N ≤ maxLen) (hNb : N * 16 ≤ 140737488355328) (w : World) (hseq : SeqGives Fence.wide (n - 1) Tryz.prog g lb dtV S N w) :
  CallsIn Fence.wide n Tryz.prog 107 #[.slice none 0 0, .func (.func g) #[] lb] w fun e w' => ∃ (v : Value) (ss : List Dt), e = .returned v ∧ S ss ∧ w'.ownsRow w.heap.size 55 2 v ss.length (kRow ss) ∧ (v = .slice none 0 0 ↔ ss = []) ∧ RowKit.Below w.heap.size w w' := by
 have hne : 102 ≠ 55 := by decide
 refine callsIn_of_wp_marks Tryz.func107 rfl trivial ?_ rfl
 simp only [Tryz.ntmps107, List.size_toArray, List.length_cons, List.length_nil, Nat.reduceAdd, Nat.reduceSub, Array.replicate_succ, Array.replicate_zero, List.push_toArray, List.append_toArray, List.nil_append, List.cons_append]
 gi_wp2
 refine wpIn_rangeFunc ?_
 intro fn hfn
 obtain ⟨W0, hW0⟩ : ∃ W0, w.alloc (.cells #[.slice none 0 0] 102) = W0 := ⟨_, rfl⟩
 have hs0 : W0.heap.size = w.heap.size + 1 := by rw [← hW0]; simp
 have hv0 : W0.heap[w.heap.size]? = some (.cells #[.slice none 0 0] 102 (0, 0)) := by rw [← hW0]; exact World.alloc_heap_new w _
 have hb0 : RowKit.Below w.heap.size w W0 := by rw [← hW0]; exact (RowKit.Below.refl _ w).alloc (Nat.le_refl _) _
 rw [hW0]
 obtain ⟨W1, hW1⟩ : ∃ W1, (W0.alloc (.deferred (some []))).alloc (.loop (apRec fn (.func (.func g) #[] lb) w.heap.size W0.heap.size .ready)) = W1 := ⟨_, rfl⟩
 have hold : ∀ k, k < W0.heap.size → W1.heap[k]? = W0.heap[k]? := fun k hk => by
  rw [← hW1]; exact (Below.heap_alloc _ _ k (by simp; omega)).trans (Below.heap_alloc _ _ k hk)
 have hb1 : RowKit.Below w.heap.size w W1 := by rw [← hW1]; exact (hb0.alloc hb0.size _).alloc (by have := hb0.size; simp; omega) _
 have hM : ApAt w fn (.func (.func g) #[] lb) w.heap.size (W0.heap.size + 1) W0.heap.size [] W1 :=
  ⟨⟨_, (hold w.heap.size (by omega)).trans hv0, ⟨rfl, .inl ⟨rfl, rfl⟩⟩, by simp⟩,
   by rw [← hW1]; have := World.alloc_heap_new (W0.alloc (.deferred (some []))) (.loop (apRec fn (.func (.func g) #[] lb) w.heap.size W0.heap.size .ready)); rwa [World.size_alloc] at this,
   by rw [← hW1]; exact (Below.heap_alloc _ _ _ (by simp)).trans (World.alloc_heap_new W0 _), hb1⟩
 refine ⟨W0.heap.size + 1, [{ target := .collected W0.heap.size, args := #[] }], W1, { target := .fn (.func g) lb, args := #[.func (.yield (W0.heap.size + 1)) #[] #[]] }, W1, g,
  #[.func (.yield (W0.heap.size + 1)) #[] #[]] ++ lb, W1, ?_, ?_, ?_, ?_, fun _ => by omega, ?_⟩
 ·rw [← hW1]; exact run_enterLoop_outer _ _ _ _ _
 ·simp [resolve, go_sem]
 ·intro f' hf'; trivial
 ·simp [invoke, go_sem, eg]
 ·refine (hseq (W0.heap.size + 1) (ApAt w fn (.func (.func g) #[] lb) w.heap.size (W0.heap.size + 1) W0.heap.size) W1 hb1 (ap_abides _ _ _ _ _ _ _ hb1.size)
   (fun pre x W hJ hl => apYieldK (n - 1 - 1) w fn _ w.heap.size (W0.heap.size + 1) W0.heap.size (by omega) (by omega) (by omega) (Nat.le_refl _) (by omega) N hN hNb pre x W hJ hl) hM).mono ?_
  rintro e W2 ⟨⟨v0, rfl⟩, ss, hS, h2⟩
  obtain ⟨v, hv, hrow, hnil⟩ := h2.box
  have hend := run_endLoop (P := Tryz.prog) h2.L (by simp [apRec])
  obtain ⟨W3, hW3⟩ : ∃ W3, W2.putObj (W0.heap.size + 1) (.loop { apRec fn (.func (.func g) #[] lb) w.heap.size W0.heap.size .ready with state := .exhausted }) = W3 := ⟨_, rfl⟩
  rw [hW3] at hend
  have hg3 : W2.grownBy W3 (some (W0.heap.size + 1)) := by rw [← hW3]; exact grownBy_putObj_a _ _ _
  have hv3 : W3.heap[w.heap.size]? = some (.cells #[v] 102 (0, 0)) := by rw [← hW3]; exact (World.putObj_heap_other (by omega)).trans hv
  have hK3 : W3.heap[W0.heap.size]? = some (.deferred (some [])) := by rw [← hW3]; exact (World.putObj_heap_other (by omega)).trans h2.K
  have hrow3 := hrow.kept hg3 (ownsRow_ne_a hrow h2.L (fun cur e => by cases e))
  have hb3 : RowKit.Below w.heap.size w W3 := h2.below.grown hg3 h2.below.size (fun k e => by cases e; omega)
  obtain ⟨hc3, hf3⟩ := cell_of_box_a hv3
  have HR := hid hrow3
  clear hW3 hrow hrow3
  refine ⟨none, W3, hend, ?_⟩
  gi_wp2
  rw [← hs0]
  refine ⟨by simp, .inl ⟨_, _, rfl, run_takeDeferred hK3, ?_⟩⟩
  exact ⟨_, results_tmp rfl _ _ _, v, ss, rfl, hS, HR.out.kept (grownBy_putObj_a _ _ _) (ownsRow_ne_a HR.out hK3 (fun cur e => by cases e)), hnil, hb3.grown (grownBy_putObj_a _ _ _) hb3.size (fun k e => by cases e; omega)⟩
theorem collectK (g : Nat) (lb : Array Value) (eg : ∀ args w, (callFunc g args).run Tryz.prog w = .ok (.enter g args) w)
  (S : List Dt → Prop) (N : Nat) (hN : N ≤ maxLen) (hNb : N * 16 ≤ 140737488355328) (w : World) (hseq : SeqGives Fence.wide 4 Tryz.prog g lb dtV S N w) :
  Calls Tryz.prog 91 #[.func (.func g) #[] lb] w fun e w' => ∃ (v : Value) (ss : List Dt), e = .returned v ∧ S ss ∧ w'.ownsRow w.heap.size 55 2 v ss.length (kRow ss) ∧ (v = .slice none 0 0 ↔ ss = []) ∧ RowKit.Below w.heap.size w w' := by
 have HA := hid ((callsIn_wide (n := 5)).1 (appendSeqK 5 (by omega) g lb eg S N hN hNb w hseq))
 go_enter Tryz.func91, Tryz.ntmps91
 go_wp2_with fail
 refine HA.out.mono ?_
 rintro e w' ⟨v, ss, rfl, hS, hrow, hnil, hb⟩
 have HX := hid (And.intro hS (And.intro hrow (And.intro hnil hb)))
 clear hS hrow hnil hb HA
 go_wp2_with fail
 go_ret
 exact ⟨v, ss, rfl, HX.out.1, HX.out.2.1, HX.out.2.2.1, HX.out.2.2.2⟩
theorem keysGivesK (Bm b nn : Nat) (f : Dt → Option ByteArray) (D0 : DataW Value) (w : World) (hBm : Bm < w.heap.size) (hm : w.cell? ⟨Bm, 0, none⟩ = some (.map (some b))) (hF : FM w 55 dtV mrkV b nn f D0) :
  SeqGives Fence.wide 4 Tryz.prog 108 #[.pointer (some ⟨Bm, 0, none⟩)] dtV (KeysF f) (Maps.size D0) w := fun l J W hW hJ hY h0 => by
 have hF' : FM W 55 dtV mrkV b nn f D0 := ⟨own_same hF.own (hW.block b hF.own.lt), hF.at', hF.cov, hF.ok⟩
 exact keysItK 4 l Bm b nn f D0 J (by omega) hY W hJ ((hW.cell (p := ⟨Bm, 0, none⟩) hBm).trans hm) hF' h0
theorem compareKeysW (x y : Dt) (w : World) : Calls Tryz.prog 82 #[.agg #[.int .i64 x.1, .int .i64 x.2], .agg #[.int .i64 y.1, .int .i64 y.2]] w fun e w' => e = .returned (.int .i64 (cmpDt x y)) ∧ Bw w w' := by
 obtain ⟨s, k⟩ := x
 obtain ⟨s', k'⟩ := y
 dsimp only
 obtain ⟨W, hW⟩ : ∃ W, (w.alloc (.cells #[.int .i64 s, .int .i64 k] 55)).alloc (.cells #[.int .i64 s', .int .i64 k'] 55) = W := ⟨_, rfl⟩
 have b0 : Bw w W := by rw [← hW]; exact ⟨below2 _ _ _, Nat.le_refl _⟩
 have X0 : Bx2 W w.heap.size (.int .i64 s) (.int .i64 k) := by rw [← hW]; exact (Bx2.made w _ _ _).allocs _
 have X1 : Bx2 W (w.heap.size + 1) (.int .i64 s') (.int .i64 k') := by rw [← hW]; simpa using Bx2.made (w.alloc (.cells #[.int .i64 s, .int .i64 k] 55)) (.int .i64 s') (.int .i64 k') 55
 have HB0 := hid b0
 have HX0 := hid X0
 have HX1 := hid X1
 clear b0 X0 X1
 go_enter Tryz.func82, Tryz.ntmps82
 go_wp2_with fail
 try rw [hW]
 clear hW
 have HCS : Hid (∀ w', Bw W w' → (Bw W w' ∧ w'.cell? ⟨w.heap.size, 0, none⟩ = some (.int .i64 s) ∧ w'.cell? ⟨w.heap.size, 1, none⟩ = some (.int .i64 k) ∧ w'.cell? ⟨w.heap.size + 1, 0, none⟩ = some (.int .i64 s') ∧ w'.cell? ⟨w.heap.size + 1, 1, none⟩ = some (.int .i64 k'))) := hid (fun w' hB => by
  have x0 := HX0.out.below hB.1 HX0.out.lt
  have x1 := HX1.out.below hB.1 HX1.out.lt
  exact ⟨hB, x0.c0, x0.c1, x1.c0, x1.c1⟩)
 refine wp_region_held_drew (S := fun w' => Bw W w' ∧ w'.cell? ⟨w.heap.size, 0, none⟩ = some (.int .i64 s) ∧ w'.cell? ⟨w.heap.size, 1, none⟩ = some (.int .i64 k) ∧ w'.cell? ⟨w.heap.size + 1, 0, none⟩ = some (.int .i64 s') ∧ w'.cell? ⟨w.heap.size + 1, 1, none⟩ = some (.int .i64 k')) (by kernel_rfl) (HCS.out _ ⟨(RowKit.Below.refl _ _).drew, Nat.le_succ _⟩) (fun hHeld => ?_)
 refine tk 0 5 ?_ (by kernel_rfl) (fun _ _ _ h => h) ?_ hHeld (tk 1 6 ?_ (by kernel_rfl) (fun _ _ _ h => h) ?_ hHeld (tk 2 7 ?_ (by kernel_rfl) (fun _ _ _ h => h) ?_ hHeld (tk 3 8 ?_ (by kernel_rfl) (fun _ _ _ h => h) ?_ hHeld (tk 5 10 ?_ (by kernel_rfl) (fun _ _ _ h => h) ?_ hHeld ?_))))
 iterate 5 (rotate_left; focus (intro o ho; simp only [gZa, gZb, gZc, gZd] at ho; subst ho; refine Or.inl ⟨by rfl, ?_⟩; intro w hSw; (try dsimp only at hSw); (try simp only [Act.put, sZa, sZb, sZc]); go_simp; try with_reducible rfl))
 try simp only [Act.put, sZa, sZb, sZc]
 refine tk 6 11 ?_ (by kernel_rfl) (fun _ _ _ h => h) ?_ hHeld (tk 7 12 ?_ (by kernel_rfl) (fun _ _ _ h => h) ?_ hHeld (tk 8 13 ?_ (by kernel_rfl) (fun _ _ _ h => h) ?_ hHeld ?_))
 iterate 3 (rotate_left; focus (intro o ho; simp only [gZa, gZb, gZc, gZd] at ho; subst ho; refine Or.inl ⟨by rfl, ?_⟩; intro w hSw; (try dsimp only at hSw); (try simp only [Act.put, sZa, sZb, sZc]); go_simp; try with_reducible rfl))
 try simp only [Act.put, sZa, sZb, sZc]
 refine call1 (i := 4) (d := some 9) (by kernel_rfl) (by kernel_rfl) ?_
 intro o ho hod K hK; simp only [gZa, gZb, gZc, gZd] at ho; subst ho
 go_simp
 refine (compare s s' _).mono ?_
 rintro e w1 ⟨rfl, rfl⟩
 refine hK.out _ _ hHeld (fun hHeld => ?_)
 clear hK K
 try simp only [Act.put, sZa, sZb, sZc]
 refine call1 (i := 9) (d := some 14) (by kernel_rfl) (by kernel_rfl) ?_
 intro o ho hod K hK; simp only [gZa, gZb, gZc, gZd] at ho; subst ho
 go_simp
 refine (compare k k' _).mono ?_
 rintro e w2 ⟨rfl, rfl⟩
 refine hK.out _ _ hHeld (fun hHeld => ?_)
 clear hK K
 try simp only [Act.put, sZa, sZb, sZc]
 refine call1 (i := 10) (d := some 15) (by kernel_rfl) (by kernel_rfl) ?_
 intro o ho hod K hK; simp only [gZa, gZb, gZc, gZd] at ho; subst ho
 go_simp
 have hB : Bw W (W.drew.alloc (.cells #[.int .i64 (cmpI s s'), .int .i64 (cmpI k k')] 3)) := ⟨hHeld.1.1.alloc hHeld.1.1.size _, hHeld.1.2⟩
 refine hK.out _ _ (HCS.out _ hB) (fun hHeld => ?_)
 clear hK K
 try simp only [Act.put, sZa, sZb, sZc]
 refine call1 (i := 11) (d := some 16) (by kernel_rfl) (by kernel_rfl) ?_
 intro o ho hod K hK; simp only [gZa, gZb, gZc, gZd] at ho; subst ho
 go_simp
 refine (cmpOr _ 2 2 (fun i => if i = 0 then cmpI s s' else cmpI k k') _ (by omega) (fun i hi => ?_)).mono ?_
 ·match i, hi with
  | 0, _ => simp
  | 1, _ => simp
 rintro e w3 ⟨rfl, rfl⟩
 refine hK.out _ _ hHeld (fun hHeld => ?_)
 clear hK K
 try simp only [Act.put, sZa, sZb, sZc]
 refine tk 12 4 ?_ (by kernel_rfl) (fun _ _ _ h => h) ?_ hHeld ?_
 rotate_left
 ·(intro o ho; simp only [gZa, gZb, gZc, gZd] at ho; subst ho; refine Or.inl ⟨by rfl, ?_⟩; intro w hSw; (try dsimp only at hSw); go_simp; try with_reducible rfl)
 try simp only [Act.put, sZa, sZb, sZc]
 refine wpAnyH_done (by kernel_rfl) ?_ _
 have HB : Hid (Bw w (W.drew.alloc (.cells #[.int .i64 (cmpI s s'), .int .i64 (cmpI k k')] 3))) := hid ⟨HB0.out.1.trans (hHeld.1.1.mono HB0.out.1.size), Nat.le_trans HB0.out.2 hHeld.1.2⟩
 clear hHeld hB
 go_wp2_with fail
 go_ret
 exact ⟨ret_i nz2, HB.out⟩
theorem kCells_len (x : Dt) : (kCells x).length = 2 := rfl
theorem kRow_len (ss : List Dt) : (kRow ss).length = ss.length * 2 := by
 induction ss with
 | nil => rfl
 | cons x r ih => simp only [kRow, List.flatMap_cons, List.length_append, List.length_cons] at *; rw [ih, kCells_len]; omega
theorem kRow_get : ∀ (ss : List Dt) (t : Nat), t < ss.length * 2 → (kRow ss)[t]? = some ((kCells ss.toArray[t / 2]!)[t % 2]!)
 | [], t, h => by simp at h
 | x :: r, t, h => by
  rcases Nat.lt_or_ge t 2 with h2 | h2
  ·have : t = 0 ∨ t = 1 := by omega
   rcases this with rfl | rfl <;> simp [kRow, kCells]
  ·obtain ⟨u, rfl⟩ : ∃ u, t = u + 2 := ⟨t - 2, by omega⟩
   have ih := kRow_get r u (by simp at h; omega)
   have e1 : (u + 2) / 2 = u / 2 + 1 := by omega
   have e2 : (u + 2) % 2 = u % 2 := by omega
   rw [e1, e2]
   have hu : u / 2 < r.length := by simp at h; omega
   have e3 : (x :: r).toArray[u / 2 + 1]! = r.toArray[u / 2]! := by
    rw [getElem!_pos _ _ (by simp; omega), getElem!_pos _ _ (by simpa using hu)]; simp
   rw [e3, ← ih]
   simp [kRow, kCells]
theorem flat_kRow (ss : List Dt) : (flatK kCells 2 ss.toArray).toList = kRow ss := by
 apply List.ext_getElem?
 intro t
 by_cases h : t < ss.length * 2
 ·rw [kRow_get ss t h]
  have h' : t < (flatK kCells 2 ss.toArray).size := by simpa using h
  have := get_flatK kCells 2 ss.toArray t (by simpa using h)
  rw [getElem!_pos _ t h'] at this
  rw [Array.getElem?_toList, Array.getElem?_eq_getElem h', this]
 ·rw [List.getElem?_eq_none (by simp; omega), List.getElem?_eq_none (by rw [kRow_len]; omega)]
theorem heap_sortedK {w : World} {g n : Nat} {os : Array Obj} {cur : Array Value} {e : TypeId} {fr : Nat × Nat} (d : Array Value) (hb : w.heap[g]? = some (.cells cur e fr)) :
  (grow (putRow id (Sort.ahead w n) g 0 d) os).heap[g]? = some (.cells (putCells id 0 d cur) e fr) := by
 have hg : g < w.heap.size := (Array.getElem?_eq_some_iff.1 hb).1
 rw [heap_grow_old _ _ (by simpa [putRow, mapBlock, Sort.ahead] using hg)]
 simp [putRow, mapBlock, Sort.ahead, Array.getElem?_modify, hb, onCells]
theorem grownBy_sortedK {w : World} {g n : Nat} {os : Array Obj} (d : Array Value) : w.grownBy (grow (putRow id (Sort.ahead w n) g 0 d) os) (some g) := by
 refine ⟨rfl, rfl, rfl, by simp [grow, putRow, mapBlock, Sort.ahead], fun k hk hne => ?_⟩
 rw [heap_grow_old _ _ (by simpa [putRow, mapBlock, Sort.ahead] using hk)]
 have : g ≠ k := fun e => hne (by rw [e])
 simp [putRow, mapBlock, Sort.ahead, Array.getElem?_modify, this]
theorem take_putV (cur : Array Value) (ts : List Value) (h : ts.length ≤ cur.size) : (putCells id 0 ts.toArray cur).toList.take ts.length = ts := by
 apply List.ext_getElem?
 intro j
 by_cases hj : j < ts.length
 ·rw [List.getElem?_take_of_lt hj, Array.getElem?_toList]
  simp [putCells, hj, show j < cur.size by omega]
 ·rw [List.getElem?_take_eq_none (by omega), List.getElem?_eq_none (by omega)]
theorem eg_cmpK : ∀ args w, (callFunc 82 args).run Tryz.prog w = .ok (.enter 82 args) w := enters_of Tryz.func82 (by kernel_rfl) rfl
theorem cmpLaysK (blk off size : Nat) (w : World) : CmpLays Tryz.prog 82 #[] kCells 2 cmpDt blk off size w := fun m os dk _ x y =>
 (compareKeysW x y _).mono fun e w' ⟨he, hb⟩ => ⟨he, hb.grown⟩
theorem sortFuncK (B blk cap : Nat) (ss : List Dt) (w : World) (ho : w.ownsRow B 55 2 (.slice (some ⟨blk, 0, none⟩) ss.length cap) ss.length (kRow ss)) (hsz : ss.length ≤ 1048576) :
  Calls Tryz.prog 99 #[.slice (some ⟨blk, 0, none⟩) ss.length cap, .func (.func 82) #[] #[]] w fun e w' => e = .returned (.tuple #[]) ∧ ∃ ts : List Dt, ts.Perm ss ∧ SortedIn (ltOf cmpDt) 0 ts.length ts.toArray ∧ w'.ownsRow B 55 2 (.slice (some ⟨blk, 0, none⟩) ss.length cap) ss.length (kRow ts) ∧ w.grownBy w' (some blk) := by
 rcases ho.2 with ⟨h0, _⟩ | ⟨g', cap', cur, hv, hbase, hb, h1, h2, h3, h4⟩
 ·cases h0
 cases hv
 have hblk : blk < w.heap.size := (Array.getElem?_eq_some_iff.1 hb).1
 have hH : HoldsK kCells 2 w blk 0 ss.toArray := by
  intro t ht
  have ht' : t < ss.length * 2 := by simpa using ht
  refine ⟨?_, by simp [World.frozen?, hb]⟩
  have e1 : (cur.toList.take (ss.length * 2))[t]? = (kRow ss)[t]? := by rw [h4]
  rw [List.getElem?_take_of_lt ht', kRow_get ss t ht'] at e1
  have e2 := get_flatK kCells 2 ss.toArray t (by simpa using ht')
  rw [e2]
  simp only [World.cell?, hb, Nat.zero_add, Option.isSome_none, Bool.false_eq_true, if_false]
  rw [← Array.getElem?_toList, e1]; rfl
 have hcon := AnyQ.slices_SortFunc Tryz.sortD 2 Tryz.isAgg55 Tryz.sizeOf55 kCells kCells_len (fun x v hv => by simp [kCells] at hv; rcases hv with rfl | rfl <;> rfl) cmpDt CmpT.dot.swo 82 #[] blk 0 cap ss.toArray w eg_cmpK (cmpLaysK blk 0 _ w) hH hblk (by simp; omega)
 change Calls Tryz.prog 99 _ _ _ at hcon
 simp only [List.size_toArray] at hcon
 refine hcon.mono ?_
 rintro e w' ⟨rfl, d', n, os, hp, hs, rfl⟩
 have hd : d'.size = ss.length := by simpa using hp.1
 have hperm : d'.toList.Perm ss := by
  have := hp.2.2
  have e1 : d'.extract 0 ss.length = d' := by rw [← hd]; simp
  have e2 : ss.toArray.extract 0 ss.length = ss.toArray := by simp
  rw [e1, e2] at this
  simpa using this
 refine ⟨rfl, d'.toList, hperm, by simpa [hd] using hs, ⟨by rw [kRow_len]; simp [hd], .inr ⟨blk, cap, _, rfl, hbase, heap_sortedK _ hb, h1, h2, by simp [putCells, h3], ?_⟩⟩, grownBy_sortedK _⟩
 have e3 : flatK kCells 2 d' = (kRow d'.toList).toArray := by
  have := flat_kRow d'.toList
  simp only [Array.toArray_toList] at this
  rw [← this]
 rw [e3]
 have := take_putV cur (kRow d'.toList) (by rw [kRow_len]; simp [hd]; omega)
 rw [kRow_len] at this
 simpa [hd] using this
theorem nodup_keys {ts : List Dt} (h : ts.Nodup) (hs : SortedIn (ltOf cmpDt) 0 ts.length ts.toArray) : ts.Pairwise (fun x y => cmpDt x y < 0) := by
 have := CmpT.dot.rises (d := ts.toArray) (by simpa using hs) (by simpa using h)
 simpa using this
theorem sortedFuncK (g : Nat) (lb : Array Value) (eg : ∀ args w, (callFunc g args).run Tryz.prog w = .ok (.enter g args) w) (N : Nat) (f : Dt → Option ByteArray) (w : World) (hN : N ≤ 1048576) (hseq : SeqGives Fence.wide 4 Tryz.prog g lb dtV (KeysF f) N w) :
  Calls Tryz.prog 80 #[.func (.func g) #[] lb, .func (.func 82) #[] #[]] w fun e w' => ∃ (v : Value) (ts : List Dt), e = .returned v ∧ ts.Pairwise (fun x y => cmpDt x y < 0) ∧ (∀ x, x ∈ ts ↔ f x ≠ none) ∧ ts.length ≤ 1048576 ∧ w'.ownsRow w.heap.size 55 2 v ts.length (kRow ts) ∧ RowKit.Below w.heap.size w w' := by
 have HC := hid (collectK g lb eg _ N (by unfold maxLen; omega) (by omega) w (SeqGives.bounded hseq))
 go_enter Tryz.func80, Tryz.ntmps80
 go_wp2_with fail
 refine HC.out.mono ?_
 rintro e w1 ⟨v, ss, rfl, ⟨hK, hlen⟩, hrow, hnil, hb⟩
 rcases hrow.2 with ⟨rfl, hz⟩ | ⟨gb, cap, cur, rfl, hbase, hgb, r1, r2, r3, r4⟩
 ·have hss : ss = [] := List.eq_nil_of_length_eq_zero hz
  subst hss
  have HB := hid hb
  have HK := hid hK
  have HR := hid hrow
  have hcon := AnyF.slices_SortFunc_none Tryz.sortD none 0 (.func (.func 82) #[] #[]) w1
  change Calls Tryz.prog 99 _ _ _ at hcon
  have HS := hid hcon
  clear hb hK hrow HC hcon
  go_wp2_with fail
  refine HS.out.mono ?_
  rintro e w2 ⟨rfl, rfl⟩
  clear HS
  go_wp2_with fail
  go_ret
  exact ⟨_, [], rfl, List.Pairwise.nil, fun x => HK.out.2 x, by simp, HR.out, HB.out⟩
 ·have HS := hid (sortFuncK w.heap.size gb cap ss w1 hrow (by omega))
  have HB := hid hb
  have HK := hid hK
  have HL : Hid (ss.length ≤ 1048576) := hid (by omega)
  have Hg := hid hbase
  clear hb hK hrow HC hnil
  go_wp2_with fail
  refine HS.out.mono ?_
  rintro e w2 ⟨rfl, ts, hp, hs, ho, hg⟩
  have HO := hid ho
  have HB2 := hid (HB.out.grown hg HB.out.size (fun k e => by injection e with e; have := Hg.out; omega))
  have HP := hid hp
  have HSo := hid hs
  clear ho hg hp hs HS
  go_wp2_with fail
  go_ret
  refine ⟨_, ts, rfl, nodup_keys (HP.out.nodup_iff.2 HK.out.1) HSo.out, fun x => by rw [HP.out.mem_iff]; exact HK.out.2 x, by rw [HP.out.length_eq]; exact HL.out, ?_, HB2.out⟩
  rw [HP.out.length_eq]; exact HO.out
theorem keysNilK (n l Bm : Nat) (J : List Dt → World → Prop) (W : World) (hJ : AbidesFrom W.heap.size J) (hm : W.cell? ⟨Bm, 0, none⟩ = some (.map none)) (h0 : J [] W) :
  CallsIn Fence.wide n Tryz.prog 108 #[.func (.yield l) #[] #[], .pointer (some ⟨Bm, 0, none⟩)] W fun e W' => (∃ v, e = .returned v) ∧ ∃ ss : List Dt, KeysF (fun _ => (none : Option ByteArray)) ss ∧ J ss W' := by
 have hrg := run_range_nilMap (P := Tryz.prog) W 62 55 80 Tryz.underlying62
 have hnx : ∀ ty, (Instr.next (.pointer (some ⟨W.heap.size, 0, none⟩)) false ty).run Tryz.prog (W.alloc (.mapIter none 0 #[] 0)) = _ := fun ty => run_next_nilMap _ ty 0 0 #[]
 refine callsIn_of_wp Tryz.func108 rfl trivial ?_ rfl
 simp only [Tryz.ntmps108, List.size_toArray, List.length_cons, List.length_nil, Nat.reduceAdd, Nat.reduceSub, Array.replicate_succ, Array.replicate_zero, List.push_toArray, List.append_toArray, List.nil_append, List.cons_append]
 gi_wp2
 refine wpIn_loop_rounds 1 ?_
 rw [roundsIn_succ]
 gi_wp2
 go_end0
 exact ⟨⟨_, rfl⟩, [], ⟨List.nodup_nil, fun x => by simp⟩, hJ [] W _ none h0 (World.grownBy_alloc W _ none) (fun r e => by cases e)⟩
theorem keysFnK (mb : Option Nat) (w : World) : Calls Tryz.prog 92 #[.map mb] w fun e w' => e = .returned (.func (.func 108) #[] #[.pointer (some ⟨w.heap.size, 0, none⟩)]) ∧ w' = w.alloc (.cells #[.map mb] 62) := by
 go_enter Tryz.func92, Tryz.ntmps92
 go_wp2_with fail
 go_ret
 exact ⟨rfl, rfl⟩
theorem sortedDotsC (B c : Nat) (N : List Ky → Option (Nat × Nat)) (M : List Ky → Dt → Option ByteArray) (p : List Ky) (w : World) (hT : Tre w B N M c) (hc : c ≤ 1048576) :
  Calls Tryz.prog 116 #[.agg #[.map (mF (N p)), .map (mS (N p))]] w fun e w' => ∃ (v : Value) (ts : List Dt), e = .returned v ∧ ts.Pairwise (fun x y => cmpDt x y < 0) ∧ (∀ x, x ∈ ts ↔ M p x ≠ none) ∧ ts.length ≤ 1048576 ∧ w'.ownsRow w.heap.size 55 2 v ts.length (kRow ts) ∧ RowKit.Below w.heap.size w w' := by
 obtain ⟨u0, hu0⟩ : ∃ u, mF (N p) = u := ⟨_, rfl⟩
 obtain ⟨u1, hu1⟩ : ∃ u, mS (N p) = u := ⟨_, rfl⟩
 rw [hu0, hu1]
 have HG : Hid (∀ w1, RowKit.Below w.heap.size w w1 → ∀ Bm, Bm < w1.heap.size → w1.cell? ⟨Bm, 0, none⟩ = some (.map u1) → ∃ n, n ≤ 1048576 ∧ SeqGives Fence.wide 4 Tryz.prog 108 #[.pointer (some ⟨Bm, 0, none⟩)] dtV (KeysF (M p)) n w1) := hid (fun w1 b1 Bm hBm hm => by
  cases e : N p with
  | some x =>
   obtain ⟨D, hF⟩ := (hT.below b1).marks p x e
   have : u1 = some x.2 := by rw [← hu1, e]; rfl
   rw [this] at hm
   exact ⟨Maps.size D, Nat.le_trans hF.own.size_le hc, keysGivesK Bm x.2 c _ D w1 hBm hm hF⟩
  | none =>
   have : u1 = none := by rw [← hu1, e]; rfl
   rw [this] at hm
   refine ⟨0, by omega, fun l J W hW hJ hY h0 => ?_⟩
   have e2 : M p = fun _ => none := funext fun y => by rw [hT.none' _ e]
   rw [e2]
   exact keysNilK 4 l Bm J W hJ ((hW.cell (p := ⟨Bm, 0, none⟩) hBm).trans hm) h0)
 obtain ⟨W, hW⟩ : ∃ W, w.alloc (.cells #[.map u0, .map u1] 64) = W := ⟨_, rfl⟩
 have b0 : RowKit.Below w.heap.size w W := by rw [← hW]; exact (RowKit.Below.refl _ _).alloc (Nat.le_refl _) _
 have X0 : Bx2 W w.heap.size (.map u0) (.map u1) := by rw [← hW]; exact Bx2.made _ _ _ _
 have k0 := X0.c1
 have HB := hid b0
 clear hT b0 X0 hu0 hu1
 go_enter Tryz.func116, Tryz.ntmps116
 go_wp2_with fail
 try rw [hW]
 clear hW
 refine (keysFnK u1 W).mono ?_
 rintro e w1 ⟨rfl, hw1⟩
 have b1 : RowKit.Below W.heap.size W w1 := by rw [hw1]; exact (RowKit.Below.refl _ _).alloc (Nat.le_refl _) _
 have c1 : w1.cell? ⟨W.heap.size, 0, none⟩ = some (.map u1) := by rw [hw1]; simp
 have z1 : W.heap.size < w1.heap.size := by rw [hw1]; simp
 have HB1 := hid (HB.out.trans (b1.mono HB.out.size))
 obtain ⟨n, hn, hseq⟩ := HG.out w1 HB1.out W.heap.size z1 c1
 have HS := hid (sortedFuncK _ _ (enters_of Tryz.func108 (by kernel_rfl) rfl) n (M p) w1 hn hseq)
 clear hseq hw1 b1 c1 z1 k0 HG
 go_wp2_with fail
 refine HS.out.mono ?_
 rintro e w2 ⟨v, ts, rfl, hp, hm, hl, ho, hb⟩
 have HX := hid (And.intro hp (And.intro hm hl))
 have HB2 := hid (HB1.out.trans (hb.mono HB1.out.size))
 have HO : Hid (w2.ownsRow w.heap.size 55 2 v ts.length (kRow ts)) := hid (by
  obtain ⟨q1, q2⟩ := ho
  refine ⟨q1, ?_⟩
  rcases q2 with q2 | ⟨g, cap, cur, e, hbg, r⟩
  ·exact .inl q2
  ·exact .inr ⟨g, cap, cur, e, Nat.le_trans HB1.out.size hbg, r⟩)
 clear hp hm hl ho hb HS
 go_wp2_with fail
 go_ret
 exact ⟨v, ts, rfl, HX.out.1, HX.out.2.1, HX.out.2.2, HO.out, HB2.out⟩
end Go.Proofs.YtcbcabhjododoaaGreat.Ds
namespace Go.Proofs.YtcbcabhjododoaaGreat
open Go.ChangeShapes Go.WideShapes Go.ChangeAt Go.RowKit
theorem jdot_at {w : World} {B g m cap : Nat} {ts : List Dt} (h : w.ownsRow B 55 2 (.slice (some ⟨g, 0, none⟩) m cap) m (Ds.kRow ts)) (hl : ts.length = m) : ∀ i, i < m → ∃ d, ts[i]? = some d ∧ w.cell? ⟨g, i * 2, none⟩ = some (.int .i64 d.1) ∧ w.cell? ⟨g, i * 2 + 1, none⟩ = some (.int .i64 d.2) := by
 rcases h.2 with ⟨h0, _⟩ | ⟨g', cap', cur, hv, hbase, hb, h1, h2, h3, h4⟩
 ·cases h0
 ·cases hv
  intro i hi
  have hi' : i < ts.length := by omega
  have e0 : ts.toArray[i]! = ts[i] := by rw [getElem!_pos _ _ (by simpa using hi')]; simp
  refine ⟨ts[i], by simp [hi'], ?_, ?_⟩
  ·have e1 : (cur.toList.take (m * 2))[i * 2]? = (Ds.kRow ts)[i * 2]? := by rw [h4]
   rw [List.getElem?_take_of_lt (by omega), Ds.kRow_get ts (i * 2) (by omega)] at e1
   rw [show i * 2 / 2 = i by omega, show i * 2 % 2 = 0 by omega, e0] at e1
   simp [World.cell?, hb, ← Array.getElem?_toList, e1, Ds.kCells]
  ·have e1 : (cur.toList.take (m * 2))[i * 2 + 1]? = (Ds.kRow ts)[i * 2 + 1]? := by rw [h4]
   rw [List.getElem?_take_of_lt (by omega), Ds.kRow_get ts (i * 2 + 1) (by omega)] at e1
   rw [show (i * 2 + 1) / 2 = i by omega, show (i * 2 + 1) % 2 = 1 by omega, e0] at e1
   simp [World.cell?, hb, ← Array.getElem?_toList, e1, Ds.kCells]
theorem jdseg {w : World} {B : Nat} {v : Value} {ts : List Dt} (h : w.ownsRow B 55 2 v ts.length (Ds.kRow ts)) : ∃ a cap, v = .slice a ts.length cap ∧ ts.length ≤ cap ∧ cap ≤ 9223372036854775807 ∧ (0 < ts.length → ∃ g, a = some ⟨g, 0, none⟩ ∧ B ≤ g ∧ g < w.heap.size ∧ ∀ i, i < ts.length → ∃ d, ts[i]? = some d ∧ w.cell? ⟨g, i * 2, none⟩ = some (.int .i64 d.1) ∧ w.cell? ⟨g, i * 2 + 1, none⟩ = some (.int .i64 d.2)) := by
 rcases h.2 with ⟨rfl, h0⟩ | ⟨g, cap, cur, rfl, hbase, hb, h1, h2, h3, h4⟩
 ·exact ⟨none, 0, by rw [h0], by omega, by omega, fun hh => by omega⟩
 ·exact ⟨_, cap, rfl, h1, by unfold maxLen at h2; omega, fun _ => ⟨g, rfl, hbase, (Array.getElem?_eq_some_iff.1 hb).1, jdot_at h rfl⟩⟩
theorem jkey_at {w : World} {B g m cap : Nat} {ts : List Ky} (h : w.ownsRow B 140 2 (.slice (some ⟨g, 0, none⟩) m cap) m (kRow ts)) (hl : ts.length = m) : ∀ i, i < m → ∃ d, ts[i]? = some d ∧ w.cell? ⟨g, i * 2, none⟩ = some (.string d.1) ∧ w.cell? ⟨g, i * 2 + 1, none⟩ = some (.int .i64 d.2) := by
 rcases h.2 with ⟨h0, _⟩ | ⟨g', cap', cur, hv, hbase, hb, h1, h2, h3, h4⟩
 ·cases h0
 ·cases hv
  intro i hi
  have hi' : i < ts.length := by omega
  have e0 : ts.toArray[i]! = ts[i] := by rw [getElem!_pos _ _ (by simpa using hi')]; simp
  refine ⟨ts[i], by simp [hi'], ?_, ?_⟩
  ·have e1 : (cur.toList.take (m * 2))[i * 2]? = (kRow ts)[i * 2]? := by rw [h4]
   rw [List.getElem?_take_of_lt (by omega), kRow_get ts (i * 2) (by omega)] at e1
   rw [show i * 2 / 2 = i by omega, show i * 2 % 2 = 0 by omega, e0] at e1
   simp [World.cell?, hb, ← Array.getElem?_toList, e1, kCells]
  ·have e1 : (cur.toList.take (m * 2))[i * 2 + 1]? = (kRow ts)[i * 2 + 1]? := by rw [h4]
   rw [List.getElem?_take_of_lt (by omega), kRow_get ts (i * 2 + 1) (by omega)] at e1
   rw [show (i * 2 + 1) / 2 = i by omega, show (i * 2 + 1) % 2 = 1 by omega, e0] at e1
   simp [World.cell?, hb, ← Array.getElem?_toList, e1, kCells]
theorem jkseg {w : World} {B : Nat} {v : Value} {ts : List Ky} (h : w.ownsRow B 140 2 v ts.length (kRow ts)) : ∃ a cap, v = .slice a ts.length cap ∧ ts.length ≤ cap ∧ cap ≤ 9223372036854775807 ∧ (0 < ts.length → ∃ g, a = some ⟨g, 0, none⟩ ∧ B ≤ g ∧ g < w.heap.size ∧ ∀ i, i < ts.length → ∃ d, ts[i]? = some d ∧ w.cell? ⟨g, i * 2, none⟩ = some (.string d.1) ∧ w.cell? ⟨g, i * 2 + 1, none⟩ = some (.int .i64 d.2)) := by
 rcases h.2 with ⟨rfl, h0⟩ | ⟨g, cap, cur, rfl, hbase, hb, h1, h2, h3, h4⟩
 ·exact ⟨none, 0, by rw [h0], by omega, by omega, fun hh => by omega⟩
 ·exact ⟨_, cap, rfl, h1, by unfold maxLen at h2; omega, fun _ => ⟨g, rfl, hbase, (Array.getElem?_eq_some_iff.1 hb).1, jkey_at h rfl⟩⟩
theorem jnx_kind {p : List ByteArray} {x : Lf} {y : Ky} (hx : LfOk1 x) (h : nx p x = some y) : (y.2 = 1 ∨ y.2 = 2) ∨ (y.2 = 3 ∧ p.length + 2 ≤ 8) := by
 rw [nx_some] at h
 obtain ⟨⟨_, hl⟩, e⟩ := h
 have e1 := congrArg Prod.snd e
 unfold onWay at e1
 dsimp only at e1
 by_cases h2 : p.length + 1 < x.p.length
 ·rw [if_pos h2] at e1
  have := hx.1.2.1
  exact .inr ⟨e1.symm, by omega⟩
 ·rw [if_neg h2] at e1
  rcases kd_or x.fl with k | k <;> rw [k] at e1
  ·exact .inl (.inl e1.symm)
  ·exact .inl (.inr e1.symm)
theorem TJ.nki {w : World} {B : Nat} {J : List Lf} {N : List Ky → Option (Nat × Nat)} {c : Nat} (h : TJ w B J N c) (h0 : N [] ≠ none) : NkI J J.length N := fun z => by
 by_cases e : z = []
 ·rw [e]
  refine ⟨fun _ => .inl rfl, fun _ => ?_⟩
  cases hv : N [] with
  | none => exact absurd hv h0
  | some v => rfl
 ·obtain ⟨u, y, rfl⟩ : ∃ u y, z = u ++ [y] := ⟨z.dropLast, z.getLast e, (List.dropLast_concat_getLast e).symm⟩
  rw [h.there u y]
  constructor
  ·rintro ⟨x, hx, hp⟩
   obtain ⟨j, hj, ej⟩ := gL_mem.1 hx
   exact .inr ⟨j, hj, by rw [ej]; exact hp⟩
  ·rintro (h1 | ⟨j, hj, hp⟩)
   ·exact absurd h1 e
   ·exact ⟨gL J j, gL_mem.2 ⟨j, hj, rfl⟩, hp⟩
theorem mark_map (l : List Lf) (p : List ByteArray) (s : ByteArray) (d : Dt) : Mk l l.length (wayOf p 3 ++ [(s, 3)]) d = none := by
 refine Classical.byContradiction fun hn => ?_
 obtain ⟨j, hj, e, _⟩ := Mk_ne.1 hn
 rw [← way_snoc] at e
 have := (wayOf_inj e.symm (by simp)).2
 rcases kd_or (gL l j).fl with h | h <;> omega
theorem no_kids {l : List Lf} {N : List Ky → Option (Nat × Nat)} (hN : NkI l l.length N) (p : List ByteArray) (y u : Ky) (hy : y.2 ≠ 3) : N (wayOf p 3 ++ [y] ++ [u]) = none := by
 cases hv : N (wayOf p 3 ++ [y] ++ [u]) with
 | none => rfl
 | some v =>
  exfalso
  have h1 : (N (wayOf p 3 ++ [y] ++ [u])).isSome = true := by rw [hv]; rfl
  rcases (hN _).1 h1 with h | ⟨j, hj, hp⟩
  ·simp at h
  ·have hl := hp.length_le
   simp only [List.length_append, List.length_singleton, wayOf_len, Way] at hl
   have h2 : (Way (gL l j))[p.length]? = some y := by
    obtain ⟨t, ht⟩ := hp
    rw [← ht]
    simp [wayOf_len]
   unfold Way at h2
   rw [wayOf_get (by omega), if_pos (by omega)] at h2
   have h3 := congrArg Prod.snd (Option.some.inj h2)
   exact hy h3.symm
noncomputable def gK (l : List Lf) (f : Nat) (p : List ByteArray) (y : Ky) : List Lf := if y.2 = 3 then wL l f (p ++ [y.1]) else dsK l p y l.length
theorem wL_gK (l : List Lf) (f : Nat) (p : List ByteArray) : wL l (f + 1) p = (kS l p l.length).flatMap (gK l f p) := rfl
theorem jflat_take {α : Type} (g : α → List Lf) (ts : List α) (k : Nat) : ((ts.take k).flatMap g).length ≤ (ts.flatMap g).length := by
 have : ts.flatMap g = (ts.take k).flatMap g ++ (ts.drop k).flatMap g := by rw [← List.flatMap_append, List.take_append_drop]
 rw [this, List.length_append]; omega
theorem appendLeaves0 (Bt c : Nat) (N : List Ky → Option (Nat × Nat)) (M : List Ky → Dt → Option ByteArray) (z : List Ky) (w : World) (hT : Tre w Bt N M c) (hc : c ≤ 1048576) (hz : ∀ u, N (z ++ [u]) = none) (bv vw : Value) :
  Calls Tryz.prog 97 #[.agg #[.map (mF (N z)), .map (mS (N z))], bv, vw] w fun e w' => e = .returned bv ∧ Below w.heap.size w w' := by
 obtain ⟨W, hW⟩ : ∃ W, w.alloc (.cells #[.map (mF (N z)), .map (mS (N z))] 64) = W := ⟨_, rfl⟩
 have b0 : Below w.heap.size w W := by rw [← hW]; exact (Below.refl _ _).alloc (Nat.le_refl _) _
 have X0 : Bx2 W w.heap.size (.map (mF (N z))) (.map (mS (N z))) := by rw [← hW]; exact Bx2.made _ _ _ _
 have HSD := hid (sortedKeysC Bt c N M z W (hT.below b0) hc)
 obtain ⟨m0, hu0⟩ : ∃ u, mF (N z) = u := ⟨_, rfl⟩
 obtain ⟨m1, hu1⟩ : ∃ u, mS (N z) = u := ⟨_, rfl⟩
 rw [hu0, hu1] at X0 HSD hW
 rw [hu0, hu1]
 have k0 := X0.c0
 have k1 := X0.c1
 have HB0 := hid b0
 have HZ := hid hz
 clear X0 b0 hT hu0 hu1 hz
 go_enter Tryz.func97, Tryz.ntmps97
 go_wp2_with fail
 try rw [hW]
 clear hW
 refine HSD.out.mono ?_
 rintro e w1 ⟨vd, ts, rfl, hts1, hts2, htl, hod, b1⟩
 obtain rfl : ts = [] := List.eq_nil_iff_forall_not_mem.2 fun x hx => (hts2 x).1 hx (by unfold kidsF; exact HZ.out x)
 obtain ⟨da, dc, rfl, hdc1, hdc2, hdr⟩ := jkseg hod
 have HB1 := hid (keepS HB0.out b1)
 simp only [List.length_nil] at hdc1 ⊢
 clear hts1 hts2 htl hod b1 hdr k0 k1 HSD
 go_wp2_with fail
 refine wp_loop_rounds 1 ?_; rw [rounds_succ]; go_wp2_with fail
 go_ret
 exact ⟨rfl, HB1.out⟩
theorem appendLeavesN {R F T : Nat → Int} {n : Nat} (l : List Lf) (w0 : World) (Bt c : Nat) (N : List Ky → Option (Nat × Nat)) (hT : Tre w0 Bt N (Mk l l.length) c) (hN : NkI l l.length N) (hc : c ≤ 1048576) (hlv : LvOk R F T n l l.length) (hbd : LvB l) : ∀ (f : Nat) (p : List ByteArray), p.length + f = 8 → 1 ≤ f → ∀ (bv : Value) (l0 : List Lf) (vw : Value) (w : World), Below w0.heap.size w0 w → LB w w0.heap.size bv l0 → PWay w vw p → (∀ g, vw.ownBlock = some g → bv.ownBlock ≠ some g) → l0.length + (wL l f p).length ≤ 1000000 →
  Calls Tryz.prog 97 #[.agg #[.map (mF (N (wayOf p 3))), .map (mS (N (wayOf p 3)))], bv, vw] w fun e w' => ∃ v, e = .returned v ∧ LB w' w0.heap.size v (l0 ++ wL l f p) ∧ Gr w w' bv v
 | 0, _, _, h1, _, _, _, _, _, _, _, _, _ => by omega
 | f + 1, p, hpf, _, bv, l0, vw, w, hb, ho, hvw, hne, hl => by
  obtain ⟨k1, k2⟩ := kS_ok p hlv l.length (Nat.le_refl _)
  rw [wL_gK] at hl ⊢
  have HIH : Hid (∀ s, p.length + 2 ≤ 8 → ∀ (bv : Value) (l0 : List Lf) (vw : Value) (w : World), Below w0.heap.size w0 w → LB w w0.heap.size bv l0 → PWay w vw (p ++ [s]) → (∀ g, vw.ownBlock = some g → bv.ownBlock ≠ some g) → l0.length + (wL l f (p ++ [s])).length ≤ 1000000 → Calls Tryz.prog 97 #[.agg #[.map (mF (N (wayOf p 3 ++ [(s, 3)]))), .map (mS (N (wayOf p 3 ++ [(s, 3)])))], bv, vw] w fun e w' => ∃ v, e = .returned v ∧ LB w' w0.heap.size v (l0 ++ wL l f (p ++ [s])) ∧ Gr w w' bv v) := hid (fun s hp2 bv l0 vw w h1 h2 h3 h4 h5 => by
   rw [← way_snoc]
   exact appendLeavesN l w0 Bt c N hT hN hc hlv hbd f (p ++ [s]) (by simp; omega) (by omega) bv l0 vw w h1 h2 h3 h4 h5)
  obtain ⟨W, hW⟩ : ∃ W, w.alloc (.cells #[.map (mF (N (wayOf p 3))), .map (mS (N (wayOf p 3)))] 64) = W := ⟨_, rfl⟩
  have b0 : Below w.heap.size w W := by rw [← hW]; exact (Below.refl _ _).alloc (Nat.le_refl _) _
  have X0 : Bx2 W w.heap.size (.map (mF (N (wayOf p 3)))) (.map (mS (N (wayOf p 3)))) := by rw [← hW]; exact Bx2.made _ _ _ _
  have zW : W.heap.size = w.heap.size + 1 := by rw [← hW]; simp
  have hbW : Below w0.heap.size w0 W := hb.trans (b0.mono hb.size)
  have HSD := hid (sortedKeysC Bt c N (Mk l l.length) (wayOf p 3) W (hT.below hbW) hc)
  obtain ⟨m0, hm0⟩ : ∃ u, mF (N (wayOf p 3)) = u := ⟨_, rfl⟩
  obtain ⟨m1, hm1⟩ : ∃ u, mS (N (wayOf p 3)) = u := ⟨_, rfl⟩
  rw [hm0, hm1] at X0 HSD hW
  rw [hm0, hm1]
  have q0 := X0.c0
  have q1 := X0.c1
  have HX := hid X0
  have HB0 := hid b0
  have HBW := hid hbW
  have HO := hid (ho.below b0)
  have HPW := hid (hvw.below b0)
  have HT := hid hT
  have HNK := hid hN
  have HM0 := hid hm0
  have HNE := hid hne
  have HVL : Hid (∀ g, vw.ownBlock = some g → g < w.heap.size) := hid hvw.lt
  have HOlt : Hid (∀ g, bv.ownBlock = some g → w0.heap.size ≤ g ∧ g < w.heap.size) := hid ho.lt
  have HK2 := hid k2
  have HLL := hid hl
  have HZW := hid zW
  have HZ0 : Hid (w0.heap.size ≤ w.heap.size) := hid hb.size
  clear X0 b0 hbW ho hm0 hm1 k1 k2 hvw hne hl zW hb hN
  go_enter Tryz.func97, Tryz.ntmps97
  go_wp2_with fail
  try rw [hW]
  clear hW
  refine HSD.out.mono ?_
  rintro e w1 ⟨vd, ts, rfl, hts1, hts2, htl, hod, b1⟩
  have hkt := kS_tree (p := p) hlv HNK.out hts1 hts2
  obtain ⟨da, dc, rfl, hdc1, hdc2, hdr⟩ := jkseg hod
  have hlen : ts.length ≤ 1000 := by rw [hkt]; have := kS_len l p l.length; have := hbd.len; omega
  have HD : Hid (0 < ts.length → ∃ g, da = some ⟨g, 0, none⟩ ∧ W.heap.size ≤ g ∧ g < w1.heap.size ∧ ∀ i, i < ts.length → ∃ y ∈ ts, ts[i]? = some y ∧ w1.cell? ⟨g, i * 2, none⟩ = some (.string y.1) ∧ w1.cell? ⟨g, i * 2 + 1, none⟩ = some (.int .i64 y.2)) := hid (fun h0 => by
   obtain ⟨g, e1, e2, e3, e4⟩ := hdr h0
   refine ⟨g, e1, e2, e3, fun i hi => ?_⟩
   obtain ⟨d, f1, f2, f3⟩ := e4 i hi
   exact ⟨d, List.mem_of_getElem? f1, f1, f2, f3⟩)
  have HKx : Hid (∀ y ∈ ts, y.1.size ≤ 40 ∧ ((y.2 = 1 ∨ y.2 = 2) ∨ (y.2 = 3 ∧ p.length + 2 ≤ 8))) := hid (fun y hy => by
   rw [hkt] at hy
   obtain ⟨j, hj, e⟩ := (HK2.out y).1 hy
   exact ⟨nx_name (hlv j hj).1 e, jnx_kind (hlv j hj).1 e⟩)
  have HTS : Hid (kS l p l.length = ts) := hid hkt.symm
  rw [← hkt] at HLL
  have HLK : Hid (∀ y ∈ ts, ∀ w', Below w0.heap.size w0 w' → (Instr.lookup 61 (.map m0) (.agg #[.string y.1, .int .i64 y.2]) false).run Tryz.prog w' = .ok (.agg #[.map (mF (N (wayOf p 3 ++ [y]))), .map (mS (N (wayOf p 3 ++ [y])))]) w') := hid (fun y hy w' hb' => by
   have hl := HKx.out y hy
   obtain ⟨kl, hkl⟩ := keyKey (s := y.1) (k := y.2) (by unfold maxLen; omega) (wfI (by omega) (by omega))
   have := (HT.out.below hb').look (wayOf p 3) y hkl
   rw [HM0.out] at this
   exact this)
  have X1 := HX.out.below b1 HX.out.lt
  have HX1 := hid X1
  have HO1 := hid (HO.out.below b1)
  have HPW1 := hid (HPW.out.below b1)
  have HB1 := hid (HBW.out.trans (b1.mono HBW.out.size))
  have HB01 := hid (keepS HB0.out b1)
  have HSz : Hid (w0.heap.size ≤ w1.heap.size ∧ w.heap.size < w1.heap.size) := hid (by have h1 := HB1.out.size; have h2 := b1.size; have h3 := HZW.out; omega)
  clear q0 q1 hod hts1 hts2 htl hdr hkt b1 HSD X1 HX HO HBW HPW
  go_wp2_with fail
  go_loopw [1, 16] (fun b' i wr => ∃ (k : Nat), k ≤ ts.length ∧ i = .int .i64 k ∧ Hid (LB wr w0.heap.size b' (l0 ++ (ts.take k).flatMap (gK l f p))) ∧ Hid (Gr w1 wr bv b')) (fun _ i _ => ts.length - (intOf i).toNat)
  case atStart => exact ⟨0, Nat.zero_le _, rfl, hid (by simpa using HO1.out), hid (Gr.refl _ _)⟩
  case round =>
   clear HO1
   obtain ⟨k, hk, rfl, HOk, HGk⟩ := hrel
   by_cases hlt : k < ts.length
   ·obtain ⟨g, rfl, hg1, hg2, hgc⟩ := HD.out (by omega)
    obtain ⟨y, hym, hyk, hc1, hc2⟩ := hgc k hlt
    have hgne : some g ≠ bv.ownBlock := fun e => by have h1 := (HOlt.out g e.symm).2; have h2 := HZW.out; omega
    have hbne : some w.heap.size ≠ bv.ownBlock := fun e => by have := (HOlt.out _ e.symm).2; omega
    have c1 := HGk.out.g.cell hc1 hgne
    have c2 := HGk.out.g.cell hc2 hgne
    have n0 := HGk.out.g.cell HX1.out.c0 hbne
    have hyb := HKx.out y hym
    have HBR : Hid (Below w0.heap.size w0 wr) := hid (HB1.out.trans (HGk.out.below HSz.out.1 (fun k hk => (HOlt.out k hk).1)))
    have HPR : Hid (PWay wr vw p) := hid (HPW1.out.move HGk.out.g.size (fun g hg => HGk.out.g.block g (by have h1 := HVL.out g hg; have h2 := HSz.out.2; omega) (fun e => HNE.out g hg e.symm)))
    have HUL : Hid (∀ g, u1.ownBlock = some g → w0.heap.size ≤ g ∧ g < wr.heap.size) := hid HOk.out.lt
    have HTK : Hid ((ts.take (k + 1)).flatMap (gK l f p) = (ts.take k).flatMap (gK l f p) ++ gK l f p y) := hid (by rw [List.take_add_one, hyk]; simp)
    have HZL : Hid ((l0 ++ (ts.take k).flatMap (gK l f p)).length + (gK l f p y).length ≤ 1000000) := hid (by
     have h1 := jflat_take (gK l f p) ts (k + 1)
     rw [HTK.out, List.length_append] at h1
     have h2 := HLL.out
     simp only [List.length_append] at h2 ⊢
     omega)
    obtain ⟨L0, hL0⟩ : ∃ L0, l0 ++ (ts.take k).flatMap (gK l f p) = L0 := ⟨_, rfl⟩
    have HLKy : Hid (∀ w', Below w0.heap.size w0 w' → (Instr.lookup 61 (.map m0) (.agg #[.string y.1, .int .i64 y.2]) false).run Tryz.prog w' = .ok (.agg #[.map (mF (N (wayOf p 3 ++ [y]))), .map (mS (N (wayOf p 3 ++ [y])))]) w') := hid (fun w' h => HLK.out y hym w' h)
    obtain ⟨ls, rec, hlr, hls3, hls, hrec⟩ : ∃ ls rec : List Lf, gK l f p y = ls ++ rec ∧ (∀ ts2 : List Dt, ts2.Pairwise (fun x y => cmpDt x y < 0) → (∀ d, d ∈ ts2 ↔ Mk l l.length (wayOf p 3 ++ [y]) d ≠ none) → ts2 = ls.map fun x => ((x.r, x.q) : Dt)) ∧ (∀ x ∈ ls, x = ⟨p ++ [y.1], decide (y.2 = 2), x.r, x.q, x.v⟩ ∧ Mk l l.length (wayOf p 3 ++ [y]) (x.r, x.q) = some x.v ∧ (0 ≤ x.r ∧ x.r < 8) ∧ (0 ≤ x.q ∧ x.q ≤ 1000000000)) ∧
      (∀ (bv : Value) (l0 : List Lf) (vw : Value) (w : World), Below w0.heap.size w0 w → LB w w0.heap.size bv l0 → PWay w vw (p ++ [y.1]) → (∀ g, vw.ownBlock = some g → bv.ownBlock ≠ some g) → l0.length + rec.length ≤ 1000000 → Calls Tryz.prog 97 #[.agg #[.map (mF (N (wayOf p 3 ++ [y]))), .map (mS (N (wayOf p 3 ++ [y])))], bv, vw] w fun e w' => ∃ v, e = .returned v ∧ LB w' w0.heap.size v (l0 ++ rec) ∧ Gr w w' bv v) := by
     rcases hyb.2 with h12 | ⟨h3, hp2⟩
     ·have hy3 : y.2 ≠ 3 := by omega
      refine ⟨dsK l p y l.length, [], by unfold gK; rw [if_neg hy3, List.append_nil], fun ts2 h1 h2 => dots_tree hlv hy3 h1 h2, fun x hx => ?_, fun bv l0 vw w h1 h2 h3 h4 h5 => ?_⟩
      ·have hv := mark_tree hy3 hbd.dis hx
       obtain ⟨j, hj, e, rfl⟩ := dsK_mem.1 hx
       have hp := nx_leaf_path hy3 e
       refine ⟨?_, hv, hbd.rep j hj, hbd.seq j hj⟩
       obtain ⟨x, hx⟩ : ∃ x, gL l j = x := ⟨_, rfl⟩
       rw [hx] at hp ⊢
       obtain ⟨xp, xf, xr, xq, xv⟩ := x
       have e1 : xp = p ++ [y.1] := hp.1
       have e2 : kd xf = y.2 := hp.2
       have e3 : xf = decide (y.2 = 2) := by rw [← e2]; cases xf <;> simp [kd]
       rw [← e1, ← e3]
      ·refine (appendLeaves0 Bt c N (Mk l l.length) (wayOf p 3 ++ [y]) w (HT.out.below h1) hc (fun u => no_kids HNK.out p y u hy3) bv vw).mono ?_
       rintro e w' ⟨rfl, b⟩
       exact ⟨bv, rfl, by rw [List.append_nil]; exact h2.below b, Gr.of_below b⟩
     ·obtain ⟨s, Y⟩ := y
      have h3 : Y = 3 := h3
      subst h3
      refine ⟨[], wL l f (p ++ [s]), by unfold gK; rw [if_pos rfl, List.nil_append], fun ts2 h1 h2 => ?_, fun x hx => (by cases hx), HIH.out s hp2⟩
      exact List.eq_nil_iff_forall_not_mem.2 fun d hd => (h2 d).1 hd (mark_map l p s d)
    have HL3 := hid hls3
    have HLS := hid hls
    have HRC := hid hrec
    have HMT : Hid (∀ w', Below w0.heap.size w0 w' → ∀ x ∈ ls, (Instr.lookup 62 (.map (mS (N (wayOf p 3 ++ [y])))) (.agg #[.int .i64 x.r, .int .i64 x.q]) false).run Tryz.prog w' = .ok (.agg #[.string x.v]) w') := hid (fun w' hb' x hx => by
     have hv := HLS.out x hx
     have T' := HT.out.below hb'
     cases e : N (wayOf p 3 ++ [y]) with
     | none => have h := hv.2.1; rw [T'.none' _ e] at h; cases h
     | some x1 =>
      obtain ⟨kl, hkl⟩ := dotKey (r := x.r) (q := x.q) (wfI (by omega) (by omega)) (wfI (by omega) (by omega))
      have := (T'.marks _ x1 e).look dotKeyed Tryz.underlying62 (zeroMark w') (x := (x.r, x.q)) hkl
      rw [hv.2.1] at this
      exact this)
    have HSDT : Hid (∀ w', Below w0.heap.size w0 w' → Calls Tryz.prog 116 #[.agg #[.map (mF (N (wayOf p 3 ++ [y]))), .map (mS (N (wayOf p 3 ++ [y])))]] w' fun e w'' => ∃ (v : Value) (ts : List Dt), e = .returned v ∧ ts = (ls.map fun x => ((x.r, x.q) : Dt)) ∧ w''.ownsRow w'.heap.size 55 2 v ts.length (Ds.kRow ts) ∧ Below w'.heap.size w' w'') := hid (fun w' hb' => by
     refine (Ds.sortedDotsC Bt c N (Mk l l.length) (wayOf p 3 ++ [y]) w' (HT.out.below hb') hc).mono ?_
     rintro e w'' ⟨v, ts2, rfl, h1, h2, _, h4, h5⟩
     exact ⟨v, ts2, rfl, HL3.out ts2 h1 h2, h4, h5⟩)
    obtain ⟨a1, ha1⟩ : ∃ a1, mF (N (wayOf p 3 ++ [y])) = a1 := ⟨_, rfl⟩
    obtain ⟨a2, ha2⟩ : ∃ a2, mS (N (wayOf p 3 ++ [y])) = a2 := ⟨_, rfl⟩
    rw [ha1, ha2] at HLKy HRC HSDT
    rw [ha2] at HMT
    rw [hlr] at HTK HZL
    rw [hL0] at HZL HOk
    have HFIN : Hid (l0 ++ (ts.take (k + 1)).flatMap (gK l f p) = L0 ++ (ls ++ rec)) := hid (by rw [HTK.out, ← hL0]; simp)
    obtain ⟨s, Y⟩ := y
    dsimp only at c1 c2 hyb HLKy HMT HRC HLS
    have HSS : Hid (s.size ≤ 40) := hid hyb.1
    obtain ⟨W1, hW1⟩ : ∃ W1, wr.alloc (.cells #[.string s, .int .i64 Y] 140) = W1 := ⟨_, rfl⟩
    have D1 : Bx2 W1 wr.heap.size (.string s) (.int .i64 Y) := by rw [← hW1]; exact Bx2.made _ _ _ _
    have bW1 : Below wr.heap.size wr W1 := by rw [← hW1]; exact (Below.refl _ _).alloc (Nat.le_refl _) _
    obtain ⟨W2, hW2⟩ : ∃ W2, W1.alloc (.cells #[.map a1, .map a2] 64) = W2 := ⟨_, rfl⟩
    have bW2 : Below W1.heap.size W1 W2 := by rw [← hW2]; exact (Below.refl _ _).alloc (Nat.le_refl _) _
    have HKD2 : Hid (Bx2 W2 W1.heap.size (.map a1) (.map a2)) := hid (by rw [← hW2]; exact Bx2.made _ _ _ _)
    have HD2 := hid (D1.below bW2 D1.lt)
    have HB2 := hid (keepS bW1 bW2)
    have HBR2 : Hid (Below w0.heap.size w0 W2) := hid (HBR.out.trans (HB2.out.mono HBR.out.size))
    have HPR2 := hid (HPR.out.below HB2.out)
    have HZ1 : Hid (wr.heap.size < W1.heap.size ∧ W1.heap.size < W2.heap.size) := hid ⟨D1.lt, HKD2.out.lt⟩
    have HCL : Hid (∀ w', Below W2.heap.size W2 w' → Calls Tryz.prog 115 #[vw] w' fun e w'' => ∃ v, e = .returned v ∧ Below w'.heap.size w' w'' ∧ w''.ownsRow w'.heap.size 9 1 v p.length (sRow p)) := hid (fun w' hb' => cloneW vw p w' (by omega) (HPR2.out.below hb'))
    have q0 := D1.c0
    have q1 := D1.c1
    have n01 := (bW1.cell (p := ⟨w.heap.size, 0, none⟩) (by have h1 := HSz.out.2; have h2 := HGk.out.g.size; show w.heap.size < wr.heap.size; omega)).trans n0
    have hlk := HLKy.out W1 (HBR.out.trans (bW1.mono HBR.out.size))
    have HSE : Hid (∀ w', Below W2.heap.size W2 w' → w'.cell? ⟨wr.heap.size, 0, none⟩ = some (.string s)) := hid (fun w' b => (HD2.out.below b HD2.out.lt).c0)
    clear D1 bW1 bW2 hc1 hc2 hgc hym hyk hbne hgne hls hls3 hrec hlr hL0 ha1 ha2 HLKy HTK
    go_wp2_with fail
    refine wp_region_held_drew (S := fun w' => w'.cell? ⟨wr.heap.size, 0, none⟩ = some (.string s)) (by kernel_rfl) (HSE.out _ (Below.refl _ _).drew) (fun hHeld => ?_)
    clear q0 q1 n01 hlk n0 c1 c2 hW1 hW2
    refine tk 0 24 ?_ (by kernel_rfl) (fun _ _ _ h => h) ?_ hHeld (tk 2 26 ?_ (by kernel_rfl) (fun _ _ _ h => h) ?_ hHeld (tk 3 27 ?_ (by kernel_rfl) (fun _ _ _ h => h) ?_ hHeld ?_))
    iterate 3 (rotate_left; focus (intro o ho; simp only [gZa, gZb, gZc, gZd] at ho; subst ho; refine Or.inl ⟨by rfl, ?_⟩; intro w hSw; (try dsimp only at hSw); (try simp only [Act.put, sZa, sZb, sZc]); go_simp; try with_reducible rfl))
    try simp only [Act.put, sZa, sZb, sZc]
    refine ready2t (i := 1) (j := 4) (d := some 25) (d' := some 28) (by kernel_rfl) (by kernel_rfl) (by kernel_rfl) ?_ ?_
    ·
     intro o ho hod K hK; simp only [gZa, gZb, gZc, gZd] at ho; subst ho
     go_simp
     refine (HCL.out _ (Below.refl _ _).drew).mono ?_
     rintro e w3 ⟨v3, rfl, b3, o3⟩
     have b3' : Below W2.heap.size W2 w3 := ⟨b3.os, b3.tape, b3.output, b3.size, b3.block⟩
     refine hK.out _ _ (HSE.out _ b3') (fun hHeld => ?_)
     clear hK K
     try simp only [Act.put, sZa, sZb, sZc]
     refine call1 (i := 4) (d := some 28) (by kernel_rfl) (by kernel_rfl) ?_
     intro o ho hod K hK; simp only [gZa, gZb, gZc, gZd] at ho; subst ho
     go_simp
     have b4' : Below W2.heap.size W2 (w3.alloc (.cells #[.string s] 9)) := b3'.alloc b3'.size _
     refine hK.out _ _ (HSE.out _ b4') (fun hHeld => ?_)
     clear hK K
     try simp only [Act.put, sZa, sZb, sZc]
     have o4 : (w3.alloc (.cells #[.string s] 9)).ownsRow W2.heap.size 9 1 v3 p.length (sRow p) := World.ownsRow.alloc o3 _
     obtain ⟨pq, pcap, w5, happ, o5, g5, hq5⟩ := pthApp o4 b4'.size (by omega) s w3.heap.size (by simp)
     have b5' : Below W2.heap.size W2 w5 := b4'.grown g5 b4'.size (fun k e => (World.ownsRow.lt o4 k e).1)
     refine call1 (i := 5) (d := some 29) (by kernel_rfl) (by kernel_rfl) ?_
     intro o ho hod K hK; simp only [gZa, gZb, gZc, gZd] at ho; subst ho
     refine wp_app2 _ _ _ _ rfl happ (by rfl) (by rfl) rfl ?_
     refine hK.out _ _ (HSE.out _ b5') (fun hHeld => ?_)
     clear hK K
     try simp only [Act.put, sZa, sZb, sZc]
     refine tk 6 10 ?_ (by kernel_rfl) (fun _ _ _ h => h) ?_ hHeld ?_
     rotate_left
     ·(intro o ho; simp only [gZa, gZb, gZc, gZd] at ho; subst ho; refine Or.inl ⟨by rfl, ?_⟩; intro w hSw; (try dsimp only at hSw); go_simp; try with_reducible rfl)
     try simp only [Act.put, sZa, sZb, sZc]
     refine wpAnyH_done (by kernel_rfl) ?_ _
     have HO5 := hid o5
     have HB5 := hid b5'
     clear hHeld b3 b3' b4' o3 o4 o5 g5 b5' happ HSE HCL hq5
     obtain ⟨bu, hbu⟩ : ∃ b, b = u1 := ⟨_, rfl⟩
     subst hbu
     obtain ⟨wq, hwq⟩ : ∃ b, b = wr := ⟨_, rfl⟩
     subst hwq
     have HBR5 : Hid (Below w0.heap.size w0 w5) := hid (HBR2.out.trans (HB5.out.mono HBR2.out.size))
     have K5 := HKD2.out.below HB5.out HKD2.out.lt
     have kc0 := K5.c0
     have kc1 := K5.c1
     have HK5 := hid K5
     have HD5 := hid (HD2.out.below HB5.out HD2.out.lt)
     have HPL : Hid (W2.heap.size ≤ pq ∧ pq < w5.heap.size) := hid (World.ownsRow.lt HO5.out pq rfl)
     clear K5
     go_wp2_with fail
     refine (HSDT.out w5 HBR5.out).mono ?_
     rintro e w6 ⟨vd2, ts2, rfl, hts2, hod2, b6⟩
     obtain ⟨da2, dc2, rfl, hdc21, hdc22, hdr2⟩ := jdseg hod2
     have hte : ts2.length = ls.length := by rw [hts2]; simp
     have HDD : Hid (0 < ls.length → ∃ g2, da2 = some ⟨g2, 0, none⟩ ∧ w5.heap.size ≤ g2 ∧ g2 < w6.heap.size ∧ ∀ i, i < ls.length → ∃ x ∈ ls, ls[i]? = some x ∧ w6.cell? ⟨g2, i * 2, none⟩ = some (.int .i64 x.r) ∧ w6.cell? ⟨g2, i * 2 + 1, none⟩ = some (.int .i64 x.q)) := hid (fun h0 => by
      obtain ⟨g2, e1, e2, e3, e4⟩ := hdr2 (by omega)
      refine ⟨g2, e1, e2, e3, fun i hi => ?_⟩
      obtain ⟨d, f1, f2, f3⟩ := e4 i (by omega)
      rw [hts2] at f1
      simp only [List.getElem?_map, Option.map_eq_some_iff] at f1
      obtain ⟨x, f4, f5⟩ := f1
      subst f5
      exact ⟨x, List.mem_of_getElem? f4, f4, f2, f3⟩)
     rw [hte] at hdc21 ⊢
     have hlsl : ls.length ≤ 1000000 := by have := HZL.out; simp only [List.length_append] at this; omega
     have B26 := keepS HB5.out b6
     have BR6 := keepS HB2.out B26
     have HBR6 := hid BR6
     have HO6 : Hid (LB w6 w0.heap.size bu L0) := hid (HOk.out.below BR6)
     have HP6 : Hid (w6.ownsRow W2.heap.size 9 1 (.slice (some ⟨pq, 0, none⟩) (p.length + 1) pcap) (p.length + 1) (sRow (p ++ [s]))) := hid (own_at5 HO5.out (fun g hg => b6.block g (World.ownsRow.lt HO5.out g hg).2))
     have HD6 := hid (HD5.out.below b6 HD5.out.lt)
     have HK6 := hid (HK5.out.below b6 HK5.out.lt)
     have HBW6 : Hid (Below w0.heap.size w0 w6) := hid (HBR5.out.trans (b6.mono HBR5.out.size))
     have HZ6 : Hid (wq.heap.size < W1.heap.size ∧ W1.heap.size < W2.heap.size ∧ W2.heap.size ≤ w5.heap.size ∧ w5.heap.size ≤ w6.heap.size ∧ w0.heap.size ≤ w6.heap.size) := hid ⟨HZ1.out.1, HZ1.out.2, HB5.out.size, b6.size, HBW6.out.size⟩
     clear hod2 hdr2 hts2 hte b6 B26 BR6 kc0 kc1 HD5 HK5 HO5 HB5 HKD2 HD2 HSDT
     go_wp2_with fail
     go_loopw [1, 33] (fun b' i wr => ∃ (t : Nat), t ≤ ls.length ∧ i = .int .i64 t ∧ Hid (LB wr w0.heap.size b' (L0 ++ ls.take t)) ∧ Hid (Gr w6 wr bu b')) (fun _ i _ => ls.length - (intOf i).toNat)
     case atStart => exact ⟨0, Nat.zero_le _, rfl, hid (by simpa using HO6.out), hid (Gr.refl _ _)⟩
     case round =>
      clear HO6
      obtain ⟨t, ht, rfl, HOt, HGt⟩ := hrel
      have HNB : Hid (∀ b, wq.heap.size ≤ b → some b ≠ bu.ownBlock) := hid (fun b hb e => by have := (HUL.out b e.symm).2; omega)
      have HNB2 : Hid (∀ b, ((wq.heap.size ≤ b ∧ b < w6.heap.size) ∨ wr.heap.size ≤ b) → some b ≠ u1.ownBlock) := hid (fun b hb e => by
       have h1 := (HOt.out.lt b e.symm).2
       rcases HGt.out.l with h2 | ⟨j, h2, h3⟩
       ·rw [h2] at e; have := (HUL.out b e.symm).2; have := HZ6.out; omega
       ·rw [h2] at e; have e : b = j := by injection e
        omega)
      have hz6 := HGt.out.g.size
      have HK2 := hid (HGt.out.g.cell HK6.out.c0 (HNB.out _ (by have := HZ6.out; show wq.heap.size ≤ W1.heap.size; omega)))
      have HK3 := hid (HGt.out.g.cell HK6.out.c1 (HNB.out _ (by have := HZ6.out; show wq.heap.size ≤ W1.heap.size; omega)))
      have HK4 := hid (HGt.out.g.cell HD6.out.c1 (HNB.out _ (Nat.le_refl _)))
      have HBR7 : Hid (Below w0.heap.size w0 wr) := hid (HBW6.out.trans (HGt.out.below HZ6.out.2.2.2.2 (fun k hk => (HUL.out k hk).1)))
      have HP7 : Hid (wr.ownsRow W2.heap.size 9 1 (.slice (some ⟨pq, 0, none⟩) (p.length + 1) pcap) (p.length + 1) (sRow (p ++ [s]))) := hid (own_at5 HP6.out (fun g hg => HGt.out.g.block g (World.ownsRow.lt HP6.out g hg).2 (HNB.out g (by have h1 := (World.ownsRow.lt HP6.out g hg).1; have h2 := HZ6.out; omega))))
      by_cases htl : t < ls.length
      ·obtain ⟨g2, rfl, hg21, hg22, hgc2⟩ := HDD.out (by omega)
       obtain ⟨x, hxm, hxk, hc1, hc2⟩ := hgc2 t htl
       have c1 := HGt.out.g.cell hc1 (HNB.out g2 (by have h2 := HZ6.out; show wq.heap.size ≤ g2; omega))
       have c2 := HGt.out.g.cell hc2 (HNB.out g2 (by have h2 := HZ6.out; show wq.heap.size ≤ g2; omega))
       have hxb := HLS.out x hxm
       have HMX : Hid (∀ w', Below w0.heap.size w0 w' → (Instr.lookup 62 (.map a2) (.agg #[.int .i64 x.r, .int .i64 x.q]) false).run Tryz.prog w' = .ok (.agg #[.string x.v]) w') := hid (fun w' h => HMT.out w' h x hxm)
       have HTK2 : Hid (ls.take (t + 1) = ls.take t ++ [x]) := hid (by rw [List.take_add_one, hxk]; rfl)
       obtain ⟨xp, xf, xr, xq, xv⟩ := x
       dsimp only at c1 c2 hxb HMX
       have hxp : xp = p ++ [s] := congrArg Lf.p hxb.1
       have hxf : xf = decide (Y = 2) := congrArg Lf.fl hxb.1
       subst hxp
       have hfl : (Y == 2) = xf := by rw [hxf]; rfl
       have hfd : ∀ w : World, (Instr.field 80 (.agg #[.string xv]) 0).run Tryz.prog w = .ok (.string xv) w := fun w => by kernel_rfl
       obtain ⟨V1, hV1⟩ : ∃ V1, wr.alloc (.cells #[.int .i64 xr, .int .i64 xq] 55) = V1 := ⟨_, rfl⟩
       have bV1 : Below wr.heap.size wr V1 := by rw [← hV1]; exact (Below.refl _ _).alloc (Nat.le_refl _) _
       have DV : Bx2 V1 wr.heap.size (.int .i64 xr) (.int .i64 xq) := by rw [← hV1]; exact Bx2.made _ _ _ _
       have HDV := hid DV
       have HBV : Hid (Below w0.heap.size w0 V1) := hid (HBR7.out.trans (bV1.mono HBR7.out.size))
       have HLV := hid (HOt.out.below bV1)
       have HPV := hid (own_way (own_at5 HP7.out (fun g hg => bV1.block g (World.ownsRow.lt HP7.out g hg).2)) (show (p ++ [s]).length = p.length + 1 by simp))
       have HCL2 : Hid (∀ w', Below V1.heap.size V1 w' → Calls Tryz.prog 115 #[.slice (some ⟨pq, 0, none⟩) (p.length + 1) pcap] w' fun e w'' => ∃ q cap, e = .returned (.slice (some ⟨q, 0, none⟩) (p.length + 1) cap) ∧ Below w'.heap.size w' w'' ∧ w''.ownsRow w'.heap.size 9 1 (.slice (some ⟨q, 0, none⟩) (p.length + 1) cap) (p.length + 1) (sRow (p ++ [s]))) := hid (fun w' hb' => by
        have hw := HPV.out.2.same (hb'.block pq HPV.out.2.lt)
        exact cloneS pq (p.length + 1) pcap (p ++ [s]) w' (by simp) (by omega) hw.lt (fun t ht => hw.cell ht))
       have HAP : Hid (∀ w7 q7 cap7, Below V1.heap.size V1 w7 → w7.ownsRow V1.heap.size 9 1 (.slice (some ⟨q7, 0, none⟩) (p.length + 1) cap7) (p.length + 1) (sRow (p ++ [s])) → ∃ q' cap' n' w3, (Builtin.append_ #[31, 31] 31 #[u1, .slice (some ⟨w7.heap.size, 0, none⟩) 1 1]).run Tryz.prog (w7.alloc (.cells #[.slice (some ⟨q7, 0, none⟩) (p.length + 1) cap7, .bool xf, .int .i64 xr, .int .i64 xq, .string xv] 57)) = .ok (.slice (some ⟨q', 0, none⟩) n' cap') w3 ∧
         LB w3 w0.heap.size (.slice (some ⟨q', 0, none⟩) n' cap') (L0 ++ ls.take (t + 1)) ∧ Gr w7 w3 u1 (.slice (some ⟨q', 0, none⟩) n' cap')) := hid (fun w7 q7 cap7 b7 o7 => by
        have hp7 := World.ownsRow.lt o7 q7 rfl
        have hcap : p.length + 1 ≤ cap7 ∧ cap7 ≤ 9223372036854775807 := by
         rcases o7.2 with ⟨h0, _⟩ | ⟨g', cap', cur, hv, hbase, hb, h1, h2, h3, h4⟩
         ·cases h0
         ·injection hv with e1 e2 e3
          unfold maxLen at h2
          omega
        obtain ⟨q', cap', w3, e1, e2, e3⟩ := HLV.out.app b7 HBV.out.size (by have h1 := HZL.out; simp only [List.length_append, List.length_take] at h1 ⊢; omega) ⟨p ++ [s], xf, xr, xq, xv⟩ q7 cap7 hp7.1 hp7.2 (by simpa using (own_way o7 (show (p ++ [s]).length = p.length + 1 by simp)).2) (by simpa using hcap)
        refine ⟨q', cap', _, w3, by simpa using e1, ?_, e3⟩
        rw [HTK2.out, ← List.append_assoc]; exact e2)
       have HS1 : Hid (∀ w', Below w0.heap.size w0 w' → w'.cell? ⟨wq.heap.size, 1, none⟩ = some (.int .i64 Y) → w'.cell? ⟨W1.heap.size, 1, none⟩ = some (.map a2) → w'.cell? ⟨wr.heap.size, 0, none⟩ = some (.int .i64 xr) → w'.cell? ⟨wr.heap.size, 1, none⟩ = some (.int .i64 xq) → (w'.cell? ⟨wq.heap.size, 1, none⟩ = some (.int .i64 Y) ∧ w'.cell? ⟨W1.heap.size, 1, none⟩ = some (.map a2) ∧ w'.cell? ⟨wr.heap.size, 0, none⟩ = some (.int .i64 xr) ∧ w'.cell? ⟨wr.heap.size, 1, none⟩ = some (.int .i64 xq) ∧ (Instr.lookup 62 (.map a2) (.agg #[.int .i64 xr, .int .i64 xq]) false).run Tryz.prog w' = .ok (.agg #[.string xv]) w')) := hid (fun w' h1 h2 h3 h4 h5 => ⟨h2, h3, h4, h5, HMX.out w' h1⟩)
       have HKV4 := hid ((bV1.cell (p := ⟨wq.heap.size, 1, none⟩) (by have := HZ6.out; show wq.heap.size < wr.heap.size; omega)).trans HK4.out)
       have HKV3 := hid ((bV1.cell (p := ⟨W1.heap.size, 1, none⟩) (by have := HZ6.out; show W1.heap.size < wr.heap.size; omega)).trans HK3.out)
       have HSV : Hid (∀ w', Below V1.heap.size V1 w' → (w'.cell? ⟨wq.heap.size, 1, none⟩ = some (.int .i64 Y) ∧ w'.cell? ⟨W1.heap.size, 1, none⟩ = some (.map a2) ∧ w'.cell? ⟨wr.heap.size, 0, none⟩ = some (.int .i64 xr) ∧ w'.cell? ⟨wr.heap.size, 1, none⟩ = some (.int .i64 xq) ∧ (Instr.lookup 62 (.map a2) (.agg #[.int .i64 xr, .int .i64 xq]) false).run Tryz.prog w' = .ok (.agg #[.string xv]) w')) := hid (fun w' b => by
        have hz := HDV.out.lt
        have h6 := HZ6.out
        exact HS1.out w' (HBV.out.trans (b.mono HBV.out.size)) ((b.cell (p := ⟨wq.heap.size, 1, none⟩) (by show wq.heap.size < V1.heap.size; omega)).trans HKV4.out) ((b.cell (p := ⟨W1.heap.size, 1, none⟩) (by show W1.heap.size < V1.heap.size; omega)).trans HKV3.out) (HDV.out.below b HDV.out.lt).c0 (HDV.out.below b HDV.out.lt).c1)
       have HGV : Hid (Gr w6 V1 bu u1) := hid (HGt.out.trans (Gr.of_below bV1))
       have HZV : Hid (wr.heap.size < V1.heap.size) := hid DV.lt
       clear bV1 DV hc1 hc2 hgc2 hxm hxk hxb HOt HGt hxf HMX HK4 HK3 HK2 HP7 hg21 hg22
       go_wp2_with fail
       refine wp_region_held_drew (S := fun w' => w'.cell? ⟨wq.heap.size, 1, none⟩ = some (.int .i64 Y) ∧ w'.cell? ⟨W1.heap.size, 1, none⟩ = some (.map a2) ∧ w'.cell? ⟨wr.heap.size, 0, none⟩ = some (.int .i64 xr) ∧ w'.cell? ⟨wr.heap.size, 1, none⟩ = some (.int .i64 xq) ∧ (Instr.lookup 62 (.map a2) (.agg #[.int .i64 xr, .int .i64 xq]) false).run Tryz.prog w' = .ok (.agg #[.string xv]) w') (by kernel_rfl) (HSV.out _ (Below.refl _ _).drew) (fun hHeld => ?_)
       clear c1 c2 hV1
       refine tk 0 37 ?_ (by kernel_rfl) (fun _ _ _ h => h) ?_ hHeld (tk 1 38 ?_ (by kernel_rfl) (fun _ _ _ h => h) ?_ hHeld (tk 3 40 ?_ (by kernel_rfl) (fun _ _ _ h => h) ?_ hHeld (tk 4 41 ?_ (by kernel_rfl) (fun _ _ _ h => h) ?_ hHeld (tk 5 42 ?_ (by kernel_rfl) (fun _ _ _ h => h) ?_ hHeld ?_))))
       iterate 5 (rotate_left; focus (intro o ho; simp only [gZa, gZb, gZc, gZd] at ho; subst ho; refine Or.inl ⟨by rfl, ?_⟩; intro w hSw; (try dsimp only at hSw); (try simp only [Act.put, sZa, sZb, sZc]); go_simp; try with_reducible rfl))
       try simp only [Act.put, sZa, sZb, sZc]
       refine tk 6 43 ?_ (by kernel_rfl) (fun _ _ _ h => h) ?_ hHeld (tk 7 44 ?_ (by kernel_rfl) (fun _ _ _ h => h) ?_ hHeld (tk 8 45 ?_ (by kernel_rfl) (fun _ _ _ h => h) ?_ hHeld (tk 9 46 ?_ (by kernel_rfl) (fun _ _ _ h => h) ?_ hHeld (tk 10 47 ?_ (by kernel_rfl) (fun _ _ _ h => h) ?_ hHeld ?_))))
       iterate 5 (rotate_left; focus (intro o ho; simp only [gZa, gZb, gZc, gZd] at ho; subst ho; refine Or.inl ⟨by rfl, ?_⟩; intro w hSw; (try dsimp only at hSw); (try simp only [Act.put, sZa, sZb, sZc]); go_simp; try with_reducible rfl))
       try simp only [Act.put, sZa, sZb, sZc]
       refine tk 11 48 ?_ (by kernel_rfl) (fun _ _ _ h => h) ?_ hHeld ?_
       rotate_left
       ·(intro o ho; simp only [gZa, gZb, gZc, gZd] at ho; subst ho; refine Or.inl ⟨by rfl, ?_⟩; intro w hSw; (try dsimp only at hSw); go_simp; try with_reducible rfl)
       try simp only [Act.put, sZa, sZb, sZc]
       refine call1 (i := 2) (d := some 39) (by kernel_rfl) (by kernel_rfl) ?_
       intro o ho hod K hK; simp only [gZa, gZb, gZc, gZd] at ho; subst ho
       go_simp
       refine (HCL2.out _ (Below.refl _ _).drew).mono ?_
       rintro e w7 ⟨q7, cap7, rfl, b7, o7⟩
       have b7' : Below V1.heap.size V1 w7 := ⟨b7.os, b7.tape, b7.output, b7.size, b7.block⟩
       refine hK.out _ _ (HSV.out _ b7') (fun hHeld => ?_)
       clear hK K
       try simp only [Act.put, sZa, sZb, sZc]
       refine tk 12 49 ?_ (by kernel_rfl) (fun _ _ _ h => h) ?_ hHeld ?_
       rotate_left
       ·(intro o ho; simp only [gZa, gZb, gZc, gZd] at ho; subst ho; refine Or.inl ⟨by rfl, ?_⟩; intro w hSw; (try dsimp only at hSw); go_simp; try with_reducible rfl)
       try simp only [Act.put, sZa, sZb, sZc]
       refine call1 (i := 13) (d := some 50) (by kernel_rfl) (by kernel_rfl) ?_
       intro o ho hod K hK; simp only [gZa, gZb, gZc, gZd] at ho; subst ho
       go_simp
       obtain ⟨q8, cap8, n8, w8, happ, lb8, g8⟩ := HAP.out w7 q7 cap7 b7' o7
       have b72 : Below V1.heap.size V1 (w7.alloc (.cells #[.slice (some ⟨q7, 0, none⟩) (p.length + 1) cap7, .bool xf, .int .i64 xr, .int .i64 xq, .string xv] 57)) := b7'.alloc b7'.size _
       refine hK.out _ _ (HSV.out _ b72) (fun hHeld => ?_)
       clear hK K
       try simp only [Act.put, sZa, sZb, sZc]
       refine call1 (i := 14) (d := some 51) (by kernel_rfl) (by kernel_rfl) ?_
       intro o ho hod K hK; simp only [gZa, gZb, gZc, gZd] at ho; subst ho
       refine wp_app2 _ _ _ _ rfl happ (by rfl) (by rfl) rfl ?_
       have t1 := (HSV.out _ b7').1
       have t2 := (HSV.out _ b7').2.1
       have t3 := (HSV.out _ b7').2.2.1
       have t4 := (HSV.out _ b7').2.2.2.1
       have hBw8 : Below w0.heap.size w0 w8 := (HBV.out.trans (b7'.mono HBV.out.size)).trans (g8.below (by have h1 := HBV.out.size; have h2 := b7'.size; omega) (fun k hk => (HLV.out.lt k hk).1))
       refine hK.out _ _ (HS1.out _ hBw8 (g8.g.cell t1 (HNB2.out _ (.inl ⟨Nat.le_refl _, by have := HZ6.out; show wq.heap.size < w6.heap.size; omega⟩))) (g8.g.cell t2 (HNB2.out _ (.inl ⟨by have := HZ6.out; show wq.heap.size ≤ W1.heap.size; omega, by have := HZ6.out; show W1.heap.size < w6.heap.size; omega⟩))) (g8.g.cell t3 (HNB2.out _ (.inr (Nat.le_refl _)))) (g8.g.cell t4 (HNB2.out _ (.inr (Nat.le_refl _))))) (fun hHeld => ?_)
       clear hK K
       try simp only [Act.put, sZa, sZb, sZc]
       refine tk 15 1 ?_ (by kernel_rfl) (fun _ _ _ h => h) ?_ hHeld ?_
       rotate_left
       ·(intro o ho; simp only [gZa, gZb, gZc, gZd] at ho; subst ho; refine Or.inl ⟨by rfl, ?_⟩; intro w hSw; (try dsimp only at hSw); go_simp; try with_reducible rfl)
       try simp only [Act.put, sZa, sZb, sZc]
       refine wpAnyH_done (by kernel_rfl) ?_ _
       have HL8 := hid lb8
       have HG8 := hid ((HGV.out.trans (Gr.of_below b7')).trans g8)
       clear hHeld b7 b7' b72 o7 happ lb8 g8 t1 t2 t3 t4 hBw8 HSV HS1 HAP HCL2
       go_wp2_with fail
       go_roundw
       case rel => exact ⟨t + 1, htl, by go_num, HL8, HG8⟩
       case measure => simp [intOf]; omega
      ·obtain rfl : t = ls.length := by omega
       have HOT : Hid (LB wr w0.heap.size u1 (L0 ++ ls)) := hid (by have := HOt.out; rw [List.take_length] at this; exact this)
       have kc0 := HK2.out
       have kc1 := HK3.out
       have HCA := hid (HRC.out u1 (L0 ++ ls) (.slice (some ⟨pq, 0, none⟩) (p.length + 1) pcap) wr HBR7.out HOT.out (own_way HP7.out (show (p ++ [s]).length = p.length + 1 by simp)).1 (fun g hg e => by
        have e1 : pq = g := by simpa [Value.ownBlock] using hg
        subst e1
        exact HNB2.out pq (.inl (by have h1 := HPL.out; have h2 := HZ6.out; omega)) e.symm) (by have := HZL.out; simp only [List.length_append] at this ⊢; omega))
       go_wp2_with fail
       refine HCA.out.mono ?_
       rintro e w9 ⟨v9, rfl, lb9, g9⟩
       have HL9 : Hid (LB w9 w0.heap.size v9 (l0 ++ (ts.take (k + 1)).flatMap (gK l f p))) := hid (by rw [HFIN.out, ← List.append_assoc]; exact lb9)
       have HG9 : Hid (Gr w1 w9 bv v9) := hid (((HGk.out.trans (Gr.of_below HBR6.out)).trans HGt.out).trans g9)
       clear lb9 g9 HCA kc0 kc1
       go_wp2_with fail
       go_roundw
       case rel => exact ⟨k + 1, hlt, by go_num, HL9, HG9⟩
       case measure => simp [intOf]; omega
    ·
     intro o ho hod K hK; simp only [gZa, gZb, gZc, gZd] at ho; subst ho
     go_simp
     have b3' : Below W2.heap.size W2 (W2.drew.alloc (.cells #[.string s] 9)) := ((Below.refl _ _).drew).alloc (Nat.le_refl _) _
     refine hK.out _ _ (HSE.out _ b3') (fun hHeld => ?_)
     clear hK K
     try simp only [Act.put, sZa, sZb, sZc]
     refine call1 (i := 1) (d := some 25) (by kernel_rfl) (by kernel_rfl) ?_
     intro o ho hod K hK; simp only [gZa, gZb, gZc, gZd] at ho; subst ho
     go_simp
     refine (HCL.out _ b3').mono ?_
     rintro e w4 ⟨v3, rfl, b4, o4⟩
     have b4' : Below W2.heap.size W2 w4 := keepS b3' b4
     refine hK.out _ _ (HSE.out _ b4') (fun hHeld => ?_)
     clear hK K
     try simp only [Act.put, sZa, sZb, sZc]
     have hm1 := Bx1.made W2.drew (.string s) 9
     have hcb : w4.cell? ⟨W2.heap.size, 0, none⟩ = some (.string s) := (b4.cell (p := ⟨W2.heap.size, 0, none⟩) hm1.lt).trans hm1.c0
     have o4' : w4.ownsRow W2.heap.size 9 1 v3 p.length (sRow p) := own_weak5 o4 (Nat.le_of_lt hm1.lt)
     obtain ⟨pq, pcap, w5, happ, o5, g5, hq5⟩ := pthApp o4' b4'.size (by omega) s W2.heap.size hcb
     have b5' : Below W2.heap.size W2 w5 := b4'.grown g5 b4'.size (fun k e => (World.ownsRow.lt o4' k e).1)
     refine call1 (i := 5) (d := some 29) (by kernel_rfl) (by kernel_rfl) ?_
     intro o ho hod K hK; simp only [gZa, gZb, gZc, gZd] at ho; subst ho
     refine wp_app2 _ _ _ _ rfl happ (by rfl) (by rfl) rfl ?_
     refine hK.out _ _ (HSE.out _ b5') (fun hHeld => ?_)
     clear hK K
     try simp only [Act.put, sZa, sZb, sZc]
     refine tk 6 10 ?_ (by kernel_rfl) (fun _ _ _ h => h) ?_ hHeld ?_
     rotate_left
     ·(intro o ho; simp only [gZa, gZb, gZc, gZd] at ho; subst ho; refine Or.inl ⟨by rfl, ?_⟩; intro w hSw; (try dsimp only at hSw); go_simp; try with_reducible rfl)
     try simp only [Act.put, sZa, sZb, sZc]
     refine wpAnyH_done (by kernel_rfl) ?_ _
     have HO5 := hid o5
     have HB5 := hid b5'
     clear hHeld b3' b4' b4 hm1 hcb o4 o4' o5 g5 b5' happ HSE HCL hq5
     obtain ⟨bu, hbu⟩ : ∃ b, b = u1 := ⟨_, rfl⟩
     subst hbu
     obtain ⟨wq, hwq⟩ : ∃ b, b = wr := ⟨_, rfl⟩
     subst hwq
     have HBR5 : Hid (Below w0.heap.size w0 w5) := hid (HBR2.out.trans (HB5.out.mono HBR2.out.size))
     have K5 := HKD2.out.below HB5.out HKD2.out.lt
     have kc0 := K5.c0
     have kc1 := K5.c1
     have HK5 := hid K5
     have HD5 := hid (HD2.out.below HB5.out HD2.out.lt)
     have HPL : Hid (W2.heap.size ≤ pq ∧ pq < w5.heap.size) := hid (World.ownsRow.lt HO5.out pq rfl)
     clear K5
     go_wp2_with fail
     refine (HSDT.out w5 HBR5.out).mono ?_
     rintro e w6 ⟨vd2, ts2, rfl, hts2, hod2, b6⟩
     obtain ⟨da2, dc2, rfl, hdc21, hdc22, hdr2⟩ := jdseg hod2
     have hte : ts2.length = ls.length := by rw [hts2]; simp
     have HDD : Hid (0 < ls.length → ∃ g2, da2 = some ⟨g2, 0, none⟩ ∧ w5.heap.size ≤ g2 ∧ g2 < w6.heap.size ∧ ∀ i, i < ls.length → ∃ x ∈ ls, ls[i]? = some x ∧ w6.cell? ⟨g2, i * 2, none⟩ = some (.int .i64 x.r) ∧ w6.cell? ⟨g2, i * 2 + 1, none⟩ = some (.int .i64 x.q)) := hid (fun h0 => by
      obtain ⟨g2, e1, e2, e3, e4⟩ := hdr2 (by omega)
      refine ⟨g2, e1, e2, e3, fun i hi => ?_⟩
      obtain ⟨d, f1, f2, f3⟩ := e4 i (by omega)
      rw [hts2] at f1
      simp only [List.getElem?_map, Option.map_eq_some_iff] at f1
      obtain ⟨x, f4, f5⟩ := f1
      subst f5
      exact ⟨x, List.mem_of_getElem? f4, f4, f2, f3⟩)
     rw [hte] at hdc21 ⊢
     have hlsl : ls.length ≤ 1000000 := by have := HZL.out; simp only [List.length_append] at this; omega
     have B26 := keepS HB5.out b6
     have BR6 := keepS HB2.out B26
     have HBR6 := hid BR6
     have HO6 : Hid (LB w6 w0.heap.size bu L0) := hid (HOk.out.below BR6)
     have HP6 : Hid (w6.ownsRow W2.heap.size 9 1 (.slice (some ⟨pq, 0, none⟩) (p.length + 1) pcap) (p.length + 1) (sRow (p ++ [s]))) := hid (own_at5 HO5.out (fun g hg => b6.block g (World.ownsRow.lt HO5.out g hg).2))
     have HD6 := hid (HD5.out.below b6 HD5.out.lt)
     have HK6 := hid (HK5.out.below b6 HK5.out.lt)
     have HBW6 : Hid (Below w0.heap.size w0 w6) := hid (HBR5.out.trans (b6.mono HBR5.out.size))
     have HZ6 : Hid (wq.heap.size < W1.heap.size ∧ W1.heap.size < W2.heap.size ∧ W2.heap.size ≤ w5.heap.size ∧ w5.heap.size ≤ w6.heap.size ∧ w0.heap.size ≤ w6.heap.size) := hid ⟨HZ1.out.1, HZ1.out.2, HB5.out.size, b6.size, HBW6.out.size⟩
     clear hod2 hdr2 hts2 hte b6 B26 BR6 kc0 kc1 HD5 HK5 HO5 HB5 HKD2 HD2 HSDT
     go_wp2_with fail
     go_loopw [1, 33] (fun b' i wr => ∃ (t : Nat), t ≤ ls.length ∧ i = .int .i64 t ∧ Hid (LB wr w0.heap.size b' (L0 ++ ls.take t)) ∧ Hid (Gr w6 wr bu b')) (fun _ i _ => ls.length - (intOf i).toNat)
     case atStart => exact ⟨0, Nat.zero_le _, rfl, hid (by simpa using HO6.out), hid (Gr.refl _ _)⟩
     case round =>
      clear HO6
      obtain ⟨t, ht, rfl, HOt, HGt⟩ := hrel
      have HNB : Hid (∀ b, wq.heap.size ≤ b → some b ≠ bu.ownBlock) := hid (fun b hb e => by have := (HUL.out b e.symm).2; omega)
      have HNB2 : Hid (∀ b, ((wq.heap.size ≤ b ∧ b < w6.heap.size) ∨ wr.heap.size ≤ b) → some b ≠ u1.ownBlock) := hid (fun b hb e => by
       have h1 := (HOt.out.lt b e.symm).2
       rcases HGt.out.l with h2 | ⟨j, h2, h3⟩
       ·rw [h2] at e; have := (HUL.out b e.symm).2; have := HZ6.out; omega
       ·rw [h2] at e; have e : b = j := by injection e
        omega)
      have hz6 := HGt.out.g.size
      have HK2 := hid (HGt.out.g.cell HK6.out.c0 (HNB.out _ (by have := HZ6.out; show wq.heap.size ≤ W1.heap.size; omega)))
      have HK3 := hid (HGt.out.g.cell HK6.out.c1 (HNB.out _ (by have := HZ6.out; show wq.heap.size ≤ W1.heap.size; omega)))
      have HK4 := hid (HGt.out.g.cell HD6.out.c1 (HNB.out _ (Nat.le_refl _)))
      have HBR7 : Hid (Below w0.heap.size w0 wr) := hid (HBW6.out.trans (HGt.out.below HZ6.out.2.2.2.2 (fun k hk => (HUL.out k hk).1)))
      have HP7 : Hid (wr.ownsRow W2.heap.size 9 1 (.slice (some ⟨pq, 0, none⟩) (p.length + 1) pcap) (p.length + 1) (sRow (p ++ [s]))) := hid (own_at5 HP6.out (fun g hg => HGt.out.g.block g (World.ownsRow.lt HP6.out g hg).2 (HNB.out g (by have h1 := (World.ownsRow.lt HP6.out g hg).1; have h2 := HZ6.out; omega))))
      by_cases htl : t < ls.length
      ·obtain ⟨g2, rfl, hg21, hg22, hgc2⟩ := HDD.out (by omega)
       obtain ⟨x, hxm, hxk, hc1, hc2⟩ := hgc2 t htl
       have c1 := HGt.out.g.cell hc1 (HNB.out g2 (by have h2 := HZ6.out; show wq.heap.size ≤ g2; omega))
       have c2 := HGt.out.g.cell hc2 (HNB.out g2 (by have h2 := HZ6.out; show wq.heap.size ≤ g2; omega))
       have hxb := HLS.out x hxm
       have HMX : Hid (∀ w', Below w0.heap.size w0 w' → (Instr.lookup 62 (.map a2) (.agg #[.int .i64 x.r, .int .i64 x.q]) false).run Tryz.prog w' = .ok (.agg #[.string x.v]) w') := hid (fun w' h => HMT.out w' h x hxm)
       have HTK2 : Hid (ls.take (t + 1) = ls.take t ++ [x]) := hid (by rw [List.take_add_one, hxk]; rfl)
       obtain ⟨xp, xf, xr, xq, xv⟩ := x
       dsimp only at c1 c2 hxb HMX
       have hxp : xp = p ++ [s] := congrArg Lf.p hxb.1
       have hxf : xf = decide (Y = 2) := congrArg Lf.fl hxb.1
       subst hxp
       have hfl : (Y == 2) = xf := by rw [hxf]; rfl
       have hfd : ∀ w : World, (Instr.field 80 (.agg #[.string xv]) 0).run Tryz.prog w = .ok (.string xv) w := fun w => by kernel_rfl
       obtain ⟨V1, hV1⟩ : ∃ V1, wr.alloc (.cells #[.int .i64 xr, .int .i64 xq] 55) = V1 := ⟨_, rfl⟩
       have bV1 : Below wr.heap.size wr V1 := by rw [← hV1]; exact (Below.refl _ _).alloc (Nat.le_refl _) _
       have DV : Bx2 V1 wr.heap.size (.int .i64 xr) (.int .i64 xq) := by rw [← hV1]; exact Bx2.made _ _ _ _
       have HDV := hid DV
       have HBV : Hid (Below w0.heap.size w0 V1) := hid (HBR7.out.trans (bV1.mono HBR7.out.size))
       have HLV := hid (HOt.out.below bV1)
       have HPV := hid (own_way (own_at5 HP7.out (fun g hg => bV1.block g (World.ownsRow.lt HP7.out g hg).2)) (show (p ++ [s]).length = p.length + 1 by simp))
       have HCL2 : Hid (∀ w', Below V1.heap.size V1 w' → Calls Tryz.prog 115 #[.slice (some ⟨pq, 0, none⟩) (p.length + 1) pcap] w' fun e w'' => ∃ q cap, e = .returned (.slice (some ⟨q, 0, none⟩) (p.length + 1) cap) ∧ Below w'.heap.size w' w'' ∧ w''.ownsRow w'.heap.size 9 1 (.slice (some ⟨q, 0, none⟩) (p.length + 1) cap) (p.length + 1) (sRow (p ++ [s]))) := hid (fun w' hb' => by
        have hw := HPV.out.2.same (hb'.block pq HPV.out.2.lt)
        exact cloneS pq (p.length + 1) pcap (p ++ [s]) w' (by simp) (by omega) hw.lt (fun t ht => hw.cell ht))
       have HAP : Hid (∀ w7 q7 cap7, Below V1.heap.size V1 w7 → w7.ownsRow V1.heap.size 9 1 (.slice (some ⟨q7, 0, none⟩) (p.length + 1) cap7) (p.length + 1) (sRow (p ++ [s])) → ∃ q' cap' n' w3, (Builtin.append_ #[31, 31] 31 #[u1, .slice (some ⟨w7.heap.size, 0, none⟩) 1 1]).run Tryz.prog (w7.alloc (.cells #[.slice (some ⟨q7, 0, none⟩) (p.length + 1) cap7, .bool xf, .int .i64 xr, .int .i64 xq, .string xv] 57)) = .ok (.slice (some ⟨q', 0, none⟩) n' cap') w3 ∧
         LB w3 w0.heap.size (.slice (some ⟨q', 0, none⟩) n' cap') (L0 ++ ls.take (t + 1)) ∧ Gr w7 w3 u1 (.slice (some ⟨q', 0, none⟩) n' cap')) := hid (fun w7 q7 cap7 b7 o7 => by
        have hp7 := World.ownsRow.lt o7 q7 rfl
        have hcap : p.length + 1 ≤ cap7 ∧ cap7 ≤ 9223372036854775807 := by
         rcases o7.2 with ⟨h0, _⟩ | ⟨g', cap', cur, hv, hbase, hb, h1, h2, h3, h4⟩
         ·cases h0
         ·injection hv with e1 e2 e3
          unfold maxLen at h2
          omega
        obtain ⟨q', cap', w3, e1, e2, e3⟩ := HLV.out.app b7 HBV.out.size (by have h1 := HZL.out; simp only [List.length_append, List.length_take] at h1 ⊢; omega) ⟨p ++ [s], xf, xr, xq, xv⟩ q7 cap7 hp7.1 hp7.2 (by simpa using (own_way o7 (show (p ++ [s]).length = p.length + 1 by simp)).2) (by simpa using hcap)
        refine ⟨q', cap', _, w3, by simpa using e1, ?_, e3⟩
        rw [HTK2.out, ← List.append_assoc]; exact e2)
       have HS1 : Hid (∀ w', Below w0.heap.size w0 w' → w'.cell? ⟨wq.heap.size, 1, none⟩ = some (.int .i64 Y) → w'.cell? ⟨W1.heap.size, 1, none⟩ = some (.map a2) → w'.cell? ⟨wr.heap.size, 0, none⟩ = some (.int .i64 xr) → w'.cell? ⟨wr.heap.size, 1, none⟩ = some (.int .i64 xq) → (w'.cell? ⟨wq.heap.size, 1, none⟩ = some (.int .i64 Y) ∧ w'.cell? ⟨W1.heap.size, 1, none⟩ = some (.map a2) ∧ w'.cell? ⟨wr.heap.size, 0, none⟩ = some (.int .i64 xr) ∧ w'.cell? ⟨wr.heap.size, 1, none⟩ = some (.int .i64 xq) ∧ (Instr.lookup 62 (.map a2) (.agg #[.int .i64 xr, .int .i64 xq]) false).run Tryz.prog w' = .ok (.agg #[.string xv]) w')) := hid (fun w' h1 h2 h3 h4 h5 => ⟨h2, h3, h4, h5, HMX.out w' h1⟩)
       have HKV4 := hid ((bV1.cell (p := ⟨wq.heap.size, 1, none⟩) (by have := HZ6.out; show wq.heap.size < wr.heap.size; omega)).trans HK4.out)
       have HKV3 := hid ((bV1.cell (p := ⟨W1.heap.size, 1, none⟩) (by have := HZ6.out; show W1.heap.size < wr.heap.size; omega)).trans HK3.out)
       have HSV : Hid (∀ w', Below V1.heap.size V1 w' → (w'.cell? ⟨wq.heap.size, 1, none⟩ = some (.int .i64 Y) ∧ w'.cell? ⟨W1.heap.size, 1, none⟩ = some (.map a2) ∧ w'.cell? ⟨wr.heap.size, 0, none⟩ = some (.int .i64 xr) ∧ w'.cell? ⟨wr.heap.size, 1, none⟩ = some (.int .i64 xq) ∧ (Instr.lookup 62 (.map a2) (.agg #[.int .i64 xr, .int .i64 xq]) false).run Tryz.prog w' = .ok (.agg #[.string xv]) w')) := hid (fun w' b => by
        have hz := HDV.out.lt
        have h6 := HZ6.out
        exact HS1.out w' (HBV.out.trans (b.mono HBV.out.size)) ((b.cell (p := ⟨wq.heap.size, 1, none⟩) (by show wq.heap.size < V1.heap.size; omega)).trans HKV4.out) ((b.cell (p := ⟨W1.heap.size, 1, none⟩) (by show W1.heap.size < V1.heap.size; omega)).trans HKV3.out) (HDV.out.below b HDV.out.lt).c0 (HDV.out.below b HDV.out.lt).c1)
       have HGV : Hid (Gr w6 V1 bu u1) := hid (HGt.out.trans (Gr.of_below bV1))
       have HZV : Hid (wr.heap.size < V1.heap.size) := hid DV.lt
       clear bV1 DV hc1 hc2 hgc2 hxm hxk hxb HOt HGt hxf HMX HK4 HK3 HK2 HP7 hg21 hg22
       go_wp2_with fail
       refine wp_region_held_drew (S := fun w' => w'.cell? ⟨wq.heap.size, 1, none⟩ = some (.int .i64 Y) ∧ w'.cell? ⟨W1.heap.size, 1, none⟩ = some (.map a2) ∧ w'.cell? ⟨wr.heap.size, 0, none⟩ = some (.int .i64 xr) ∧ w'.cell? ⟨wr.heap.size, 1, none⟩ = some (.int .i64 xq) ∧ (Instr.lookup 62 (.map a2) (.agg #[.int .i64 xr, .int .i64 xq]) false).run Tryz.prog w' = .ok (.agg #[.string xv]) w') (by kernel_rfl) (HSV.out _ (Below.refl _ _).drew) (fun hHeld => ?_)
       clear c1 c2 hV1
       refine tk 0 37 ?_ (by kernel_rfl) (fun _ _ _ h => h) ?_ hHeld (tk 1 38 ?_ (by kernel_rfl) (fun _ _ _ h => h) ?_ hHeld (tk 3 40 ?_ (by kernel_rfl) (fun _ _ _ h => h) ?_ hHeld (tk 4 41 ?_ (by kernel_rfl) (fun _ _ _ h => h) ?_ hHeld (tk 5 42 ?_ (by kernel_rfl) (fun _ _ _ h => h) ?_ hHeld ?_))))
       iterate 5 (rotate_left; focus (intro o ho; simp only [gZa, gZb, gZc, gZd] at ho; subst ho; refine Or.inl ⟨by rfl, ?_⟩; intro w hSw; (try dsimp only at hSw); (try simp only [Act.put, sZa, sZb, sZc]); go_simp; try with_reducible rfl))
       try simp only [Act.put, sZa, sZb, sZc]
       refine tk 6 43 ?_ (by kernel_rfl) (fun _ _ _ h => h) ?_ hHeld (tk 7 44 ?_ (by kernel_rfl) (fun _ _ _ h => h) ?_ hHeld (tk 8 45 ?_ (by kernel_rfl) (fun _ _ _ h => h) ?_ hHeld (tk 9 46 ?_ (by kernel_rfl) (fun _ _ _ h => h) ?_ hHeld (tk 10 47 ?_ (by kernel_rfl) (fun _ _ _ h => h) ?_ hHeld ?_))))
       iterate 5 (rotate_left; focus (intro o ho; simp only [gZa, gZb, gZc, gZd] at ho; subst ho; refine Or.inl ⟨by rfl, ?_⟩; intro w hSw; (try dsimp only at hSw); (try simp only [Act.put, sZa, sZb, sZc]); go_simp; try with_reducible rfl))
       try simp only [Act.put, sZa, sZb, sZc]
       refine tk 11 48 ?_ (by kernel_rfl) (fun _ _ _ h => h) ?_ hHeld ?_
       rotate_left
       ·(intro o ho; simp only [gZa, gZb, gZc, gZd] at ho; subst ho; refine Or.inl ⟨by rfl, ?_⟩; intro w hSw; (try dsimp only at hSw); go_simp; try with_reducible rfl)
       try simp only [Act.put, sZa, sZb, sZc]
       refine call1 (i := 2) (d := some 39) (by kernel_rfl) (by kernel_rfl) ?_
       intro o ho hod K hK; simp only [gZa, gZb, gZc, gZd] at ho; subst ho
       go_simp
       refine (HCL2.out _ (Below.refl _ _).drew).mono ?_
       rintro e w7 ⟨q7, cap7, rfl, b7, o7⟩
       have b7' : Below V1.heap.size V1 w7 := ⟨b7.os, b7.tape, b7.output, b7.size, b7.block⟩
       refine hK.out _ _ (HSV.out _ b7') (fun hHeld => ?_)
       clear hK K
       try simp only [Act.put, sZa, sZb, sZc]
       refine tk 12 49 ?_ (by kernel_rfl) (fun _ _ _ h => h) ?_ hHeld ?_
       rotate_left
       ·(intro o ho; simp only [gZa, gZb, gZc, gZd] at ho; subst ho; refine Or.inl ⟨by rfl, ?_⟩; intro w hSw; (try dsimp only at hSw); go_simp; try with_reducible rfl)
       try simp only [Act.put, sZa, sZb, sZc]
       refine call1 (i := 13) (d := some 50) (by kernel_rfl) (by kernel_rfl) ?_
       intro o ho hod K hK; simp only [gZa, gZb, gZc, gZd] at ho; subst ho
       go_simp
       obtain ⟨q8, cap8, n8, w8, happ, lb8, g8⟩ := HAP.out w7 q7 cap7 b7' o7
       have b72 : Below V1.heap.size V1 (w7.alloc (.cells #[.slice (some ⟨q7, 0, none⟩) (p.length + 1) cap7, .bool xf, .int .i64 xr, .int .i64 xq, .string xv] 57)) := b7'.alloc b7'.size _
       refine hK.out _ _ (HSV.out _ b72) (fun hHeld => ?_)
       clear hK K
       try simp only [Act.put, sZa, sZb, sZc]
       refine call1 (i := 14) (d := some 51) (by kernel_rfl) (by kernel_rfl) ?_
       intro o ho hod K hK; simp only [gZa, gZb, gZc, gZd] at ho; subst ho
       refine wp_app2 _ _ _ _ rfl happ (by rfl) (by rfl) rfl ?_
       have t1 := (HSV.out _ b7').1
       have t2 := (HSV.out _ b7').2.1
       have t3 := (HSV.out _ b7').2.2.1
       have t4 := (HSV.out _ b7').2.2.2.1
       have hBw8 : Below w0.heap.size w0 w8 := (HBV.out.trans (b7'.mono HBV.out.size)).trans (g8.below (by have h1 := HBV.out.size; have h2 := b7'.size; omega) (fun k hk => (HLV.out.lt k hk).1))
       refine hK.out _ _ (HS1.out _ hBw8 (g8.g.cell t1 (HNB2.out _ (.inl ⟨Nat.le_refl _, by have := HZ6.out; show wq.heap.size < w6.heap.size; omega⟩))) (g8.g.cell t2 (HNB2.out _ (.inl ⟨by have := HZ6.out; show wq.heap.size ≤ W1.heap.size; omega, by have := HZ6.out; show W1.heap.size < w6.heap.size; omega⟩))) (g8.g.cell t3 (HNB2.out _ (.inr (Nat.le_refl _)))) (g8.g.cell t4 (HNB2.out _ (.inr (Nat.le_refl _))))) (fun hHeld => ?_)
       clear hK K
       try simp only [Act.put, sZa, sZb, sZc]
       refine tk 15 1 ?_ (by kernel_rfl) (fun _ _ _ h => h) ?_ hHeld ?_
       rotate_left
       ·(intro o ho; simp only [gZa, gZb, gZc, gZd] at ho; subst ho; refine Or.inl ⟨by rfl, ?_⟩; intro w hSw; (try dsimp only at hSw); go_simp; try with_reducible rfl)
       try simp only [Act.put, sZa, sZb, sZc]
       refine wpAnyH_done (by kernel_rfl) ?_ _
       have HL8 := hid lb8
       have HG8 := hid ((HGV.out.trans (Gr.of_below b7')).trans g8)
       clear hHeld b7 b7' b72 o7 happ lb8 g8 t1 t2 t3 t4 hBw8 HSV HS1 HAP HCL2
       go_wp2_with fail
       go_roundw
       case rel => exact ⟨t + 1, htl, by go_num, HL8, HG8⟩
       case measure => simp [intOf]; omega
      ·obtain rfl : t = ls.length := by omega
       have HOT : Hid (LB wr w0.heap.size u1 (L0 ++ ls)) := hid (by have := HOt.out; rw [List.take_length] at this; exact this)
       have kc0 := HK2.out
       have kc1 := HK3.out
       have HCA := hid (HRC.out u1 (L0 ++ ls) (.slice (some ⟨pq, 0, none⟩) (p.length + 1) pcap) wr HBR7.out HOT.out (own_way HP7.out (show (p ++ [s]).length = p.length + 1 by simp)).1 (fun g hg e => by
        have e1 : pq = g := by simpa [Value.ownBlock] using hg
        subst e1
        exact HNB2.out pq (.inl (by have h1 := HPL.out; have h2 := HZ6.out; omega)) e.symm) (by have := HZL.out; simp only [List.length_append] at this ⊢; omega))
       go_wp2_with fail
       refine HCA.out.mono ?_
       rintro e w9 ⟨v9, rfl, lb9, g9⟩
       have HL9 : Hid (LB w9 w0.heap.size v9 (l0 ++ (ts.take (k + 1)).flatMap (gK l f p))) := hid (by rw [HFIN.out, ← List.append_assoc]; exact lb9)
       have HG9 : Hid (Gr w1 w9 bv v9) := hid (((HGk.out.trans (Gr.of_below HBR6.out)).trans HGt.out).trans g9)
       clear lb9 g9 HCA kc0 kc1
       go_wp2_with fail
       go_roundw
       case rel => exact ⟨k + 1, hlt, by go_num, HL9, HG9⟩
       case measure => simp [intOf]; omega
   ·obtain rfl : k = ts.length := by omega
    have HF : Hid (l0 ++ (ts.take ts.length).flatMap (gK l f p) = l0 ++ (kS l p l.length).flatMap (gK l f p)) := hid (by rw [List.take_length, HTS.out])
    go_wp2_with fail
    go_ret
    exact ⟨_, rfl, by rw [← HF.out]; exact HOk.out, (Gr.of_below (b := bv) HB01.out).trans HGk.out⟩
end Go.Proofs.YtcbcabhjododoaaGreat
