import Derived.Test.YtbimcammjohaoaeRows
import Derived.WalkKit
import Derived.ProofKit
import Derived.OpenShut
import Derived.ShutString
import Derived.Below
namespace Go.Proofs.Ytbimcammjohaoae.fnExactNewWorld
open Go.ChangeShapes Go.WideShapes Go.ChangeAt Go.RowKit
open Go.ChangeMaps (open_string shut_string)
set_option linter.unusedVariables false

theorem hid {p : Prop} (h : p) : Hid p := h
theorem own : ownKnob Try.prog.godebug = none := by kernel_rfl

theorem eqLeaf0 (a a' : Option Addr) (c c' : Nat) (w : World) : Calls Try.prog 47 #[.slice a 0 c, .slice a' 0 c'] w fun e w' => e = .returned (.bool true) ∧ w' = w := by
  go_enter Try.func47, Try.ntmps47
  go_wp2
  refine wp_loop_rounds 1 ?_; rw [rounds_succ]; go_wp2
  go_ret
  exact ⟨rfl, rfl⟩
theorem eqRun0 (a a' : Option Addr) (c c' : Nat) (w : World) : Calls Try.prog 80 #[.slice a 0 c, .slice a' 0 c'] w fun e w' => e = .returned (.bool true) ∧ w' = w := by
  go_enter Try.func80, Try.ntmps80
  go_wp2
  refine wp_loop_rounds 1 ?_; rw [rounds_succ]; go_wp2
  go_ret
  exact ⟨rfl, rfl⟩
theorem markLeaf0 (a : Option Addr) (c : Nat) (k : Int) (w : World) : Calls Try.prog 49 #[.slice a 0 c, .int .i64 k] w fun e w' => e = .returned (.int .i64 k) ∧ w' = w := by
  go_enter Try.func49, Try.ntmps49
  go_wp2
  refine wp_loop_rounds 1 ?_; rw [rounds_succ]; go_wp2
  go_ret
  exact ⟨rfl, rfl⟩
theorem markRun0 (a : Option Addr) (c : Nat) (k : Int) (w : World) : Calls Try.prog 58 #[.slice a 0 c, .int .i64 k] w fun e w' => e = .returned (.int .i64 k) ∧ w' = w := by
  go_enter Try.func58, Try.ntmps58
  go_wp2
  refine wp_loop_rounds 1 ?_; rw [rounds_succ]; go_wp2
  go_ret
  exact ⟨rfl, rfl⟩
theorem heldLeaf0 (a : Option Addr) (c : Nat) (k : Int) (w : World) : Calls Try.prog 61 #[.slice a 0 c, .int .i64 k] w fun e w' => e = .returned (.int .i64 k) ∧ w' = w := by
  go_enter Try.func61, Try.ntmps61
  go_wp2
  refine wp_loop_rounds 1 ?_; rw [rounds_succ]; go_wp2
  go_ret
  exact ⟨rfl, rfl⟩
theorem heldRun0 (a : Option Addr) (c : Nat) (k : Int) (w : World) : Calls Try.prog 62 #[.slice a 0 c, .int .i64 k] w fun e w' => e = .returned (.int .i64 k) ∧ w' = w := by
  go_enter Try.func62, Try.ntmps62
  go_wp2
  refine wp_loop_rounds 1 ?_; rw [rounds_succ]; go_wp2
  go_ret
  exact ⟨rfl, rfl⟩

theorem eqCtx0 (a a' : Option Addr) (c c' : Nat) (w : World) : Calls Try.prog 48 #[.agg #[.slice a 0 c], .agg #[.slice a' 0 c']] w fun e w' => e = .returned (.bool true) ∧ Below w.heap.size w w' := by
  go_enter Try.func48, Try.ntmps48
  go_wp2_with fail
  refine (eqRun0 _ _ _ _ _).mono ?_
  rintro e w1 ⟨rfl, rfl⟩
  go_wp2_with fail
  go_ret
  exact ⟨rfl, ((Below.refl _ _).alloc (Nat.le_refl _) _).alloc (by simp) _⟩
theorem keepN {wr w1 w2 : World} (h1 : Below wr.heap.size wr w1) (b2 : Below w1.heap.size w1 w2) : Below wr.heap.size wr w2 := h1.trans (b2.mono h1.size)

theorem eqSt0 (a a' b b' : Option Addr) (c c' d d' : Nat) (w : World) : Calls Try.prog 18 #[.agg #[.slice a 0 c, .slice b 0 d], .agg #[.slice a' 0 c', .slice b' 0 d']] w fun e w' => e = .returned (.bool true) ∧ Below w.heap.size w w' := by
  have b0 : Below w.heap.size w ((w.alloc (.cells #[.slice a 0 c, .slice b 0 d] 47)).alloc (.cells #[.slice a' 0 c', .slice b' 0 d'] 47)) := ((Below.refl _ _).alloc (Nat.le_refl _) _).alloc (by simp) _
  go_enter Try.func18, Try.ntmps18
  go_wp2_with fail
  refine (eqLeaf0 _ _ _ _ _).mono ?_
  rintro e w1 ⟨rfl, rfl⟩
  go_wp2_with fail
  refine (eqCtx0 _ _ _ _ _).mono ?_
  rintro e w2 ⟨rfl, b2⟩
  have B := hid (keepN b0 b2)
  clear b0 b2
  go_wp2_with fail
  go_ret
  exact ⟨rfl, B.out⟩
def Em (x : Int) (v : Value) : Prop := ∃ a b c d p q r s, v = .agg #[.int .i64 x, .slice a 0 p, .slice b 0 q, .slice c 0 r, .slice d 0 s]

theorem eqRep0 (x : Int) (v v' : Value) (h : Em x v) (h' : Em x v') (w : World) : Calls Try.prog 56 #[v, v'] w fun e w' => e = .returned (.bool true) ∧ Below w.heap.size w w' := by
  obtain ⟨a, b, c, d, p, q, r, s, rfl⟩ := h
  obtain ⟨a', b', c', d', p', q', r', s', rfl⟩ := h'
  obtain ⟨W, hW⟩ : ∃ W, (w.alloc (.cells #[.int .i64 x, .slice a 0 p, .slice b 0 q, .slice c 0 r, .slice d 0 s] 60)).alloc (.cells #[.int .i64 x, .slice a' 0 p', .slice b' 0 q', .slice c' 0 r', .slice d' 0 s'] 60) = W := ⟨_, rfl⟩
  have b0 : Below w.heap.size w W := by rw [← hW]; exact ((Below.refl _ _).alloc (Nat.le_refl _) _).alloc (by simp) _
  have hx : (x != x) = false := by simp
  have k0 : W.cell? ⟨w.heap.size, 0, none⟩ = some (.int .i64 x) := by rw [← hW]; simp
  have k1 : W.cell? ⟨w.heap.size, 1, none⟩ = some (.slice a 0 p) := by rw [← hW]; simp
  have k2 : W.cell? ⟨w.heap.size, 2, none⟩ = some (.slice b 0 q) := by rw [← hW]; simp
  have k3 : W.cell? ⟨w.heap.size, 3, none⟩ = some (.slice c 0 r) := by rw [← hW]; simp
  have k4 : W.cell? ⟨w.heap.size, 4, none⟩ = some (.slice d 0 s) := by rw [← hW]; simp
  have l0 : W.cell? ⟨w.heap.size + 1, 0, none⟩ = some (.int .i64 x) := by rw [← hW]; simp
  have l1 : W.cell? ⟨w.heap.size + 1, 1, none⟩ = some (.slice a' 0 p') := by rw [← hW]; simp
  have l2 : W.cell? ⟨w.heap.size + 1, 2, none⟩ = some (.slice b' 0 q') := by rw [← hW]; simp
  have l3 : W.cell? ⟨w.heap.size + 1, 3, none⟩ = some (.slice c' 0 r') := by rw [← hW]; simp
  have l4 : W.cell? ⟨w.heap.size + 1, 4, none⟩ = some (.slice d' 0 s') := by rw [← hW]; simp
  have hz : Hid (W.heap.size = w.heap.size + 2) := by rw [← hW]; exact hid (by simp)
  go_enter Try.func56, Try.ntmps56
  go_wp2_with fail
  try rw [hW]
  clear hW
  refine (eqSt0 _ _ _ _ _ _ _ _ _).mono ?_
  rintro e w1 ⟨rfl, b1⟩
  have B1 := hid (keepN b0 b1)
  have m3 := (b1.cell (p := ⟨w.heap.size, 3, none⟩) (show w.heap.size < W.heap.size by have := hz.out; omega)).trans k3
  have m4 := (b1.cell (p := ⟨w.heap.size, 4, none⟩) (show w.heap.size < W.heap.size by have := hz.out; omega)).trans k4
  have n3 := (b1.cell (p := ⟨w.heap.size + 1, 3, none⟩) (show w.heap.size + 1 < W.heap.size by have := hz.out; omega)).trans l3
  have n4 := (b1.cell (p := ⟨w.heap.size + 1, 4, none⟩) (show w.heap.size + 1 < W.heap.size by have := hz.out; omega)).trans l4
  clear b0 b1 k0 k1 k2 k3 k4 l0 l1 l2 l3 l4
  go_wp2_with fail
  refine (eqSt0 _ _ _ _ _ _ _ _ _).mono ?_
  rintro e w2 ⟨rfl, b2⟩
  have B := hid (keepN B1.out b2)
  clear b2
  go_wp2_with fail
  go_ret
  exact ⟨rfl, B.out⟩
def okR (x : Int) : Bool := decide (0 ≤ x) && decide (x < 8)
def idR (x : Int) : Int := if okR x = true then x else 0

theorem empC (w : World) : Calls Try.prog 55 #[] w fun e w' => (∃ a b, e = .returned (.agg #[.slice (some a) 0 0, .slice (some b) 0 0])) ∧ Below w.heap.size w w' := by
  go_enter Try.func55, Try.ntmps55
  go_wp2_with fail
  refine bodyPost_ret (v := .agg #[.slice (some ⟨w.heap.size + 1, 0, none⟩) 0 0, .slice (some ⟨w.heap.size + 1 + 1, 0, none⟩) 0 0]) (by simp [results, Try.results55, go_sem]) rfl ?_
  exact ⟨⟨_, _, rfl⟩, (((Below.refl _ _).alloc (Nat.le_refl _) _).alloc (by simp) _).alloc (by simp; omega) _⟩
theorem specC (x : Int) (w : World) (h0 : -9223372036854775808 ≤ x) (h1 : x ≤ 9223372036854775807) : Calls Try.prog 27 #[.int .i64 x] w fun e w' => (∃ v, e = .returned (.tuple #[v, .bool (okR x)]) ∧ Em (idR x) v) ∧ Below w.heap.size w w' := by
  by_cases a : 0 ≤ x
  · by_cases b : x < 8
    · have e1 : Hid (okR x = true) := hid (by simp [okR]; omega)
      have e : Hid (idR x = x) := hid (by simp [idR, e1.out])
      rw [e.out, e1.out]
      obtain ⟨W, hW⟩ : ∃ W, w.alloc (.cells #[.int .i64 0, .slice none 0 0, .slice none 0 0, .slice none 0 0, .slice none 0 0] 60) = W := ⟨_, rfl⟩
      have b0 : Below w.heap.size w W := by rw [← hW]; exact (Below.refl _ _).alloc (Nat.le_refl _) _
      have hz : Hid (W.heap.size = w.heap.size + 1) := by rw [← hW]; exact hid (by simp)
      have k0 : W.cell? ⟨w.heap.size, 0, none⟩ = some (.int .i64 0) := by rw [← hW]; simp
      have k1 : W.cell? ⟨w.heap.size, 1, none⟩ = some (.slice none 0 0) := by rw [← hW]; simp
      have k2 : W.cell? ⟨w.heap.size, 2, none⟩ = some (.slice none 0 0) := by rw [← hW]; simp
      have k3 : W.cell? ⟨w.heap.size, 3, none⟩ = some (.slice none 0 0) := by rw [← hW]; simp
      have k4 : W.cell? ⟨w.heap.size, 4, none⟩ = some (.slice none 0 0) := by rw [← hW]; simp
      have fz : ∀ i, W.frozen? ⟨w.heap.size, i, none⟩ = false := fun i => by rw [← hW]; simp
      go_enter Try.func27, Try.ntmps27
      go_wp2_with fail
      try rw [hW]
      clear hW
      refine (empC _).mono ?_
      rintro e w1 ⟨⟨p, q, rfl⟩, b1⟩
      go_wp2_with fail
      refine (empC _).mono ?_
      rintro e w2 ⟨⟨r, s, rfl⟩, b2⟩
      have b12 := keepN b1 b2
      have B := hid (keepN b0 b12)
      have cc := fun (i : Nat) => b12.cell (p := ⟨w.heap.size, i, none⟩) (show w.heap.size < W.heap.size by have := hz.out; omega)
      have ff := fun (i : Nat) => b12.frozen (p := ⟨w.heap.size, i, none⟩) (show w.heap.size < W.heap.size by have := hz.out; omega)
      have m0 := (cc 0).trans k0
      have m1 := (cc 1).trans k1
      have m2 := (cc 2).trans k2
      have m3 := (cc 3).trans k3
      have m4 := (cc 4).trans k4
      have f0 := (ff 0).trans (fz 0)
      have f1 := (ff 1).trans (fz 1)
      have f2 := (ff 2).trans (fz 2)
      have f3 := (ff 3).trans (fz 3)
      have f4 := (ff 4).trans (fz 4)
      clear b0 b1 b2 b12 cc ff fz k0 k1 k2 k3 k4
      go_wp2_with fail
      refine bodyPost_ret (v := .tuple #[.agg #[.int .i64 x, .slice (some p) 0 0, .slice (some q) 0 0, .slice (some r) 0 0, .slice (some s) 0 0], .bool true]) (by simp [results, Try.results27, go_sem, World.cell?_setCell_other, World.cell?_setCell_same _ _ _ m0, m1, m2, m3, m4]) rfl ?_
      exact ⟨⟨_, rfl, _, _, _, _, _, _, _, _, rfl⟩, ((((B.out.setCell (p := ⟨w.heap.size, 0, none⟩) (Nat.le_refl _) _).setCell (p := ⟨w.heap.size, 1, none⟩) (Nat.le_refl _) _).setCell (p := ⟨w.heap.size, 2, none⟩) (Nat.le_refl _) _).setCell (p := ⟨w.heap.size, 3, none⟩) (Nat.le_refl _) _).setCell (p := ⟨w.heap.size, 4, none⟩) (Nat.le_refl _) _⟩
    · have e1 : Hid (okR x = false) := hid (by simp [okR]; omega)
      have e : Hid (idR x = 0) := hid (by simp [idR, e1.out])
      rw [e.out, e1.out]
      have d0 : decide (x < 0) = false := by simpa using a
      have d1 : decide (8 ≤ x) = true := by simp; omega
      go_enter Try.func27, Try.ntmps27
      go_wp2_with fail
      refine bodyPost_ret (v := .tuple #[.agg #[.int .i64 0, .slice none 0 0, .slice none 0 0, .slice none 0 0, .slice none 0 0], .bool false]) (by simp [results, Try.results27, go_sem]) rfl ?_
      exact ⟨⟨_, rfl, _, _, _, _, _, _, _, _, rfl⟩, (Below.refl _ _).alloc (Nat.le_refl _) _⟩
  · have e1 : Hid (okR x = false) := hid (by simp [okR]; omega)
    have e : Hid (idR x = 0) := hid (by simp [idR, e1.out])
    rw [e.out, e1.out]
    have d0 : decide (x < 0) = true := by simp; omega
    go_enter Try.func27, Try.ntmps27
    go_wp2_with fail
    refine bodyPost_ret (v := .tuple #[.agg #[.int .i64 0, .slice none 0 0, .slice none 0 0, .slice none 0 0, .slice none 0 0], .bool false]) (by simp [results, Try.results27, go_sem]) rfl ?_
    exact ⟨⟨_, rfl, _, _, _, _, _, _, _, _, rfl⟩, (Below.refl _ _).alloc (Nat.le_refl _) _⟩

set_option maxHeartbeats 400000 in
theorem eqB0 (a a' : Option Addr) (c c' : Nat) (w : World) : Calls Try.prog 111 #[.slice a 0 c, .slice a' 0 c'] w fun e w' => e = .returned (.bool true) ∧ w' = w := by
  go_enter Try.func111, Try.ntmps111
  go_wp2
  refine wp_loop_rounds 1 ?_; rw [rounds_succ]; go_wp2
  go_ret
  exact ⟨rfl, rfl⟩

set_option maxHeartbeats 400000 in
theorem eqBB0 (a a' : Option Addr) (c c' : Nat) (w : World) : Calls Try.prog 84 #[.slice a 0 c, .slice a' 0 c'] w fun e w' => e = .returned (.bool true) ∧ w' = w := by
  go_enter Try.func84, Try.ntmps84
  go_wp2
  refine wp_loop_rounds 1 ?_; rw [rounds_succ]; go_wp2
  go_ret
  exact ⟨rfl, rfl⟩

set_option maxHeartbeats 400000 in
theorem mkB0 (a : Option Addr) (c : Nat) (k : Int) (w : World) : Calls Try.prog 60 #[.slice a 0 c, .int .i64 k] w fun e w' => e = .returned (.int .i64 k) ∧ w' = w := by
  go_enter Try.func60, Try.ntmps60
  go_wp2
  refine wp_loop_rounds 1 ?_; rw [rounds_succ]; go_wp2
  go_ret
  exact ⟨rfl, rfl⟩

set_option maxHeartbeats 400000 in
theorem mkBB0 (a : Option Addr) (c : Nat) (k : Int) (w : World) : Calls Try.prog 59 #[.slice a 0 c, .int .i64 k] w fun e w' => e = .returned (.int .i64 k) ∧ w' = w := by
  go_enter Try.func59, Try.ntmps59
  go_wp2
  refine wp_loop_rounds 1 ?_; rw [rounds_succ]; go_wp2
  go_ret
  exact ⟨rfl, rfl⟩

set_option maxHeartbeats 400000 in
theorem hdB0 (a : Option Addr) (c : Nat) (k : Int) (w : World) : Calls Try.prog 64 #[.slice a 0 c, .int .i64 k] w fun e w' => e = .returned (.int .i64 k) ∧ w' = w := by
  go_enter Try.func64, Try.ntmps64
  go_wp2
  refine wp_loop_rounds 1 ?_; rw [rounds_succ]; go_wp2
  go_ret
  exact ⟨rfl, rfl⟩

set_option maxHeartbeats 400000 in
theorem hdBB0 (a : Option Addr) (c : Nat) (k : Int) (w : World) : Calls Try.prog 63 #[.slice a 0 c, .int .i64 k] w fun e w' => e = .returned (.int .i64 k) ∧ w' = w := by
  go_enter Try.func63, Try.ntmps63
  go_wp2
  refine wp_loop_rounds 1 ?_; rw [rounds_succ]; go_wp2
  go_ret
  exact ⟨rfl, rfl⟩

set_option maxHeartbeats 400000 in
theorem eqDec0 (a a' : Option Addr) (c c' : Nat) (x y : Int) (w : World) : Calls Try.prog 85 #[.agg #[.slice a 0 c, .int .i64 x, .int .i64 y], .agg #[.slice a' 0 c', .int .i64 x, .int .i64 y]] w fun e w' => e = .returned (.bool true) ∧ Below w.heap.size w w' := by
  have b0 : Hid (Below w.heap.size w ((w.alloc (.cells #[.slice a 0 c, .int .i64 x, .int .i64 y] 66)).alloc (.cells #[.slice a' 0 c', .int .i64 x, .int .i64 y] 66))) := hid (((Below.refl _ _).alloc (Nat.le_refl _) _).alloc (by simp) _)
  have hx : (x != x) = false := by simp
  have hy : (y != y) = false := by simp
  go_enter Try.func85, Try.ntmps85
  go_wp2_with fail
  refine (eqB0 _ _ _ _ _).mono ?_
  rintro e w1 ⟨rfl, rfl⟩
  go_wp2_with fail
  go_ret
  exact ⟨rfl, b0.out⟩

def Pm (x y z t : Int) (v : Value) : Prop := ∃ a b p q, v = .agg #[.int .i64 x, .int .i64 y, .slice a 0 p, .slice b 0 q, .int .i64 z, .int .i64 t]
set_option maxHeartbeats 400000 in
theorem eqPipe0 (x y z t : Int) (v v' : Value) (h : Pm x y z t v) (h' : Pm x y z t v') (w : World) : Calls Try.prog 57 #[v, v'] w fun e w' => e = .returned (.bool true) ∧ Below w.heap.size w w' := by
  obtain ⟨a, b, p, q, rfl⟩ := h
  obtain ⟨a', b', p', q', rfl⟩ := h'
  obtain ⟨W, hW⟩ : ∃ W, (w.alloc (.cells #[.int .i64 x, .int .i64 y, .slice a 0 p, .slice b 0 q, .int .i64 z, .int .i64 t] 68)).alloc (.cells #[.int .i64 x, .int .i64 y, .slice a' 0 p', .slice b' 0 q', .int .i64 z, .int .i64 t] 68) = W := ⟨_, rfl⟩
  have b0 : Below w.heap.size w W := by rw [← hW]; exact ((Below.refl _ _).alloc (Nat.le_refl _) _).alloc (by simp) _
  have hx : (x != x) = false := by simp
  have hy : (y != y) = false := by simp
  have k0 : W.cell? ⟨w.heap.size, 0, none⟩ = some (.int .i64 x) := by rw [← hW]; simp
  have k1 : W.cell? ⟨w.heap.size, 1, none⟩ = some (.int .i64 y) := by rw [← hW]; simp
  have k2 : W.cell? ⟨w.heap.size, 2, none⟩ = some (.slice a 0 p) := by rw [← hW]; simp
  have k3 : W.cell? ⟨w.heap.size, 3, none⟩ = some (.slice b 0 q) := by rw [← hW]; simp
  have k4 : W.cell? ⟨w.heap.size, 4, none⟩ = some (.int .i64 z) := by rw [← hW]; simp
  have k5 : W.cell? ⟨w.heap.size, 5, none⟩ = some (.int .i64 t) := by rw [← hW]; simp
  have l0 : W.cell? ⟨w.heap.size + 1, 0, none⟩ = some (.int .i64 x) := by rw [← hW]; simp
  have l1 : W.cell? ⟨w.heap.size + 1, 1, none⟩ = some (.int .i64 y) := by rw [← hW]; simp
  have l2 : W.cell? ⟨w.heap.size + 1, 2, none⟩ = some (.slice a' 0 p') := by rw [← hW]; simp
  have l3 : W.cell? ⟨w.heap.size + 1, 3, none⟩ = some (.slice b' 0 q') := by rw [← hW]; simp
  have l4 : W.cell? ⟨w.heap.size + 1, 4, none⟩ = some (.int .i64 z) := by rw [← hW]; simp
  have l5 : W.cell? ⟨w.heap.size + 1, 5, none⟩ = some (.int .i64 t) := by rw [← hW]; simp
  have B0 := hid b0
  clear b0
  go_enter Try.func57, Try.ntmps57
  go_wp2_with fail
  try rw [hW]
  clear hW
  refine (eqBB0 _ _ _ _ _).mono ?_
  rintro e w1 ⟨rfl, rfl⟩
  go_wp2_with fail
  refine (eqDec0 _ _ _ _ _ _ _).mono ?_
  rintro e w2 ⟨rfl, b2⟩
  have B := hid (keepN B0.out b2)
  clear b2 k0 k1 k2 k3 k4 k5 l0 l1 l2 l3 l4 l5
  go_wp2_with fail
  go_ret
  exact ⟨rfl, B.out⟩
end Go.Proofs.Ytbimcammjohaoae.fnExactNewWorld
