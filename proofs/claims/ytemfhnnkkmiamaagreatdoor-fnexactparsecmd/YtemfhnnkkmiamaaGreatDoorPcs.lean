import Derived.Test.YtemfhnnkkmiamaaGreatDoorPcr
namespace Go.Proofs.YtemfhnnkkmiamaaGreatDoor
open Go.ChangeShapes Go.WideShapes Go.ChangeAt Go.RowKit
set_option linter.unusedVariables false
set_option linter.unusedSimpArgs false

theorem two_boxes (w : World) (u v : List Value) (t : TypeId) : BxL ((w.alloc (.cells u.toArray t)).alloc (.cells v.toArray t)) w.heap.size u ∧ BxL ((w.alloc (.cells u.toArray t)).alloc (.cells v.toArray t)) (w.heap.size + 1) v := by
  have b := (Below.refl (w.alloc (.cells u.toArray t)).heap.size (w.alloc (.cells u.toArray t))).alloc (Nat.le_refl _) (.cells v.toArray t)
  refine ⟨(BxL.made w u t).below b, ?_⟩
  have := BxL.made (w.alloc (.cells u.toArray t)) v t
  rwa [show (w.alloc (.cells u.toArray t)).heap.size = w.heap.size + 1 by simp] at this
set_option maxRecDepth 100000 in
set_option maxHeartbeats 2000000 in
theorem eqCmdC (c : Cm) (pa pb : Option Addr) (pc qc : Nat) (w : World) (hn : c.p.length ≤ 4194304) (h : SSeg w pa c.p) (h' : SSeg w pb c.p) :
    Calls Tryz.prog 6 #[.agg #[.string c.w, .int .i64 c.a, .int .i64 c.b, .int .i64 c.n, .int .i64 c.x, .slice pa c.p.length pc, .string c.v], .agg #[.string c.w, .int .i64 c.a, .int .i64 c.b, .int .i64 c.n, .int .i64 c.x, .slice pb c.p.length qc, .string c.v]] w fun e w' => e = .returned (.bool true) ∧ Below w.heap.size w w' := by
  obtain ⟨W, hW⟩ : ∃ W, (w.alloc (.cells #[.string c.w, .int .i64 c.a, .int .i64 c.b, .int .i64 c.n, .int .i64 c.x, .slice pa c.p.length pc, .string c.v] 24)).alloc (.cells #[.string c.w, .int .i64 c.a, .int .i64 c.b, .int .i64 c.n, .int .i64 c.x, .slice pb c.p.length qc, .string c.v] 24) = W := ⟨_, rfl⟩
  have b0 : Below w.heap.size w W := by rw [← hW]; exact belowTwo _ _ _
  obtain ⟨X, Y⟩ : BxL W w.heap.size (cmV c (.slice pa c.p.length pc)) ∧ BxL W (w.heap.size + 1) (cmV c (.slice pb c.p.length qc)) := by rw [← hW]; exact two_boxes w _ _ _
  have k0 := X.c 0 _ rfl
  have j0 := Y.c 0 _ rfl
  have k1 := X.c 1 _ rfl
  have j1 := Y.c 1 _ rfl
  have k2 := X.c 2 _ rfl
  have j2 := Y.c 2 _ rfl
  have k3 := X.c 3 _ rfl
  have j3 := Y.c 3 _ rfl
  have k4 := X.c 4 _ rfl
  have j4 := Y.c 4 _ rfl
  have k5 := X.c 5 _ rfl
  have j5 := Y.c 5 _ rfl
  have k6 := X.c 6 _ rfl
  have j6 := Y.c 6 _ rfl
  have HX := hid X
  have HY := hid Y
  have HC := hid (eqStrings pa pb pc qc c.p W hn (h.below b0) (h'.below b0))
  have HB0 := hid b0
  clear X Y b0 h h'
  have dw : (c.w.toList == c.w.toList) = true := by simp
  have dv : (c.v.toList == c.v.toList) = true := by simp
  go_enter Tryz.func6, Tryz.ntmps6
  go_wp2_with fail
  try rw [hW]
  clear hW
  refine HC.out.mono ?_
  rintro e w1 ⟨rfl, b1⟩
  have k6 := (HX.out.below b1).c 6 _ rfl
  have j6 := (HY.out.below b1).c 6 _ rfl
  have HB1 := hid (keepS HB0.out b1)
  clear b1
  go_wp2_with fail
  go_ret
  exact ⟨rfl, HB1.out⟩

structure Bt (B N : Nat) (w w' : World) : Prop where
  os : w'.os = w.os
  tape : w'.tape = w.tape
  output : w'.output = w.output
  size : w.heap.size ≤ w'.heap.size
  block : ∀ g, g < w.heap.size → (g < B ∨ N ≤ g) → w'.heap[g]? = w.heap[g]?
theorem Bt.refl (B N : Nat) (w : World) : Bt B N w w := ⟨rfl, rfl, rfl, Nat.le_refl _, fun _ _ _ => rfl⟩
theorem Bt.low {B N : Nat} {w w' : World} (h : Bt B N w w') : ∀ g, g < w.heap.size → g < B → w'.heap[g]? = w.heap[g]? := fun g h1 h2 => h.block g h1 (.inl h2)
theorem Bt.box {B N : Nat} {w w' : World} {b : Nat} {vs : List Value} (h : Bt B N w w') (X : BxL w b vs) (hb : b < B ∨ N ≤ b) : BxL w' b vs := by
  have e := h.block b X.lt hb
  exact ⟨fun i v hv => (World.cell?_of_block (a := ⟨b, i, none⟩) e).trans (X.c i v hv), fun i => (World.frozen?_of_block (a := ⟨b, i, none⟩) e).trans (X.f i), Nat.lt_of_lt_of_le X.lt h.size⟩
def HeldP (pv : Value) (n : Nat) (w' : World) : Prop := ∀ w'', Below w'.heap.size w' w'' → Calls Tryz.prog 18 #[pv, .int .i64 1] w'' (fun e w3 => e = .returned (.int .i64 ((1 + n : Nat) : Int)) ∧ Below w''.heap.size w'' w3)
theorem markP {w : World} {B N : Nat} {a : Option Addr} {n k : Nat} {p : List ByteArray} (h : PV w B (.slice a n k) p) (hn : p.length ≤ 4194304) (hN : ∀ x, a = some x → x.block < N) :
    Calls Tryz.prog 17 #[.slice a n k, .int .i64 1] w fun e w' => e = .returned (.int .i64 ((1 + p.length : Nat) : Int)) ∧ Bt B N w w' ∧ HeldP (.slice a n k) p.length w' := by
  rcases h with ⟨rfl, h⟩ | ⟨g, c, h1, h2, h3, h4, h5⟩
  · cases h
    refine (markStrings0 none 0 1 w).mono ?_
    rintro e w' ⟨rfl, rfl⟩
    refine ⟨rfl, Bt.refl _ _ _, fun w'' b => (heldStrings0 none 0 1 w'').mono ?_⟩
    rintro e w3 ⟨rfl, rfl⟩
    exact ⟨rfl, Below.refl _ _⟩
  · cases h2
    have hg : g < N := hN _ rfl
    refine (markStrings g p.length k 1 _ w (by omega) h5).mono ?_
    rintro e w' ⟨rfl, g1, g2⟩
    refine ⟨rfl, ⟨g1.os, g1.tape, g1.output, g1.size, fun q hq ho => g1.block q hq (fun e => by injection e with e; omega)⟩, fun w'' b => ?_⟩
    exact heldStrings g p.length k 1 w'' (by omega) hn (g2.below b)
set_option maxRecDepth 100000 in
set_option maxHeartbeats 1000000 in
theorem markCmdC {w : World} {B N : Nat} (c : Cm) {a : Option Addr} {k : Nat} (h : PV w B (.slice a c.p.length k) c.p) (hn : c.p.length ≤ 4194304) (hN : ∀ x, a = some x → x.block < N) (hNw : N ≤ w.heap.size) :
    Calls Tryz.prog 7 #[.agg #[.string c.w, .int .i64 c.a, .int .i64 c.b, .int .i64 c.n, .int .i64 c.x, .slice a c.p.length k, .string c.v], .int .i64 1] w fun e w' => e = .returned (.int .i64 ((1 + c.p.length : Nat) : Int)) ∧ Bt B N w w' ∧ HeldP (.slice a c.p.length k) c.p.length w' := by
  obtain ⟨W, hW⟩ : ∃ W, w.alloc (.cells #[.string c.w, .int .i64 c.a, .int .i64 c.b, .int .i64 c.n, .int .i64 c.x, .slice a c.p.length k, .string c.v] 24) = W := ⟨_, rfl⟩
  have b0 : Below w.heap.size w W := by rw [← hW]; exact (Below.refl _ _).alloc (Nat.le_refl _) _
  have X : BxL W w.heap.size (cmV c (.slice a c.p.length k)) := by rw [← hW]; exact BxL.made w _ _
  have k5 := X.c 5 _ rfl
  have HC := hid (markP (h.below b0) hn hN)
  have HB0 := hid b0
  clear X b0 h
  obtain ⟨n1, hn1⟩ : ∃ n1, ((1 + c.p.length : Nat) : Int) = n1 := ⟨_, rfl⟩
  rw [hn1] at HC ⊢
  clear hn1
  go_enter Tryz.func7, Tryz.ntmps7
  go_wp2_with fail
  try rw [hW]
  clear hW
  refine HC.out.mono ?_
  rintro e w1 ⟨rfl, b1, hh⟩
  have HB1 : Hid (Bt B N w w1) := hid ⟨b1.os.trans HB0.out.os, b1.tape.trans HB0.out.tape, b1.output.trans HB0.out.output, Nat.le_trans HB0.out.size b1.size, fun q hq ho => (b1.block q (Nat.lt_of_lt_of_le hq HB0.out.size) ho).trans (HB0.out.block q hq)⟩
  have HH := hid hh
  clear b1 hh
  go_wp2_with fail
  go_ret
  exact ⟨rfl, HB1.out, HH.out⟩
set_option maxRecDepth 100000 in
set_option maxHeartbeats 1000000 in
theorem heldCmdC {w : World} (c : Cm) {a : Option Addr} {k : Nat} (h : HeldP (.slice a c.p.length k) c.p.length w) :
    Calls Tryz.prog 8 #[.agg #[.string c.w, .int .i64 c.a, .int .i64 c.b, .int .i64 c.n, .int .i64 c.x, .slice a c.p.length k, .string c.v], .int .i64 1] w fun e w' => e = .returned (.int .i64 ((1 + c.p.length : Nat) : Int)) ∧ Below w.heap.size w w' := by
  obtain ⟨W, hW⟩ : ∃ W, w.alloc (.cells #[.string c.w, .int .i64 c.a, .int .i64 c.b, .int .i64 c.n, .int .i64 c.x, .slice a c.p.length k, .string c.v] 24) = W := ⟨_, rfl⟩
  have b0 : Below w.heap.size w W := by rw [← hW]; exact (Below.refl _ _).alloc (Nat.le_refl _) _
  have X : BxL W w.heap.size (cmV c (.slice a c.p.length k)) := by rw [← hW]; exact BxL.made w _ _
  have k5 := X.c 5 _ rfl
  have HC := hid (h W b0)
  have HB0 := hid b0
  have d0 : decide (((1 + c.p.length : Nat) : Int) < 0) = false := by simp; omega
  clear X b0 h
  obtain ⟨n1, hn1⟩ : ∃ n1, ((1 + c.p.length : Nat) : Int) = n1 := ⟨_, rfl⟩
  rw [hn1] at HC d0 ⊢
  clear hn1
  go_enter Tryz.func8, Tryz.ntmps8
  go_wp2_with fail
  try rw [hW]
  clear hW
  refine HC.out.mono ?_
  rintro e w1 ⟨rfl, b1⟩
  have HB1 := hid (keepS HB0.out b1)
  clear b1
  go_wp2_with fail
  go_ret
  exact ⟨rfl, HB1.out⟩
end Go.Proofs.YtemfhnnkkmiamaaGreatDoor
