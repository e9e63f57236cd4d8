import Derived.Test.YtbimcammjohaoadRows
import Derived.WalkKit
import Derived.ProofKit
import Derived.OpenShut
import Derived.ShutString
import Derived.Below
namespace Go.Proofs.Ytbimcammjohaoad.fnExactNewReplica
open Go.ChangeShapes Go.WideShapes Go.ChangeAt Go.RowKit
open Go.ChangeMaps (open_string shut_string)
set_option linter.unusedVariables false

theorem hid {p : Prop} (h : p) : Hid p := h
theorem own : ownKnob Try.prog.godebug = none := by kernel_rfl

set_option maxHeartbeats 400000 in
theorem eqLeaf0 (a a' : Option Addr) (c c' : Nat) (w : World) : Calls Try.prog 34 #[.slice a 0 c, .slice a' 0 c'] w fun e w' => e = .returned (.bool true) ∧ w' = w := by
  go_enter Try.func34, Try.ntmps34
  go_wp2
  refine wp_loop_rounds 1 ?_; rw [rounds_succ]; go_wp2
  go_ret
  exact ⟨rfl, rfl⟩
set_option maxHeartbeats 400000 in
theorem eqRun0 (a a' : Option Addr) (c c' : Nat) (w : World) : Calls Try.prog 53 #[.slice a 0 c, .slice a' 0 c'] w fun e w' => e = .returned (.bool true) ∧ w' = w := by
  go_enter Try.func53, Try.ntmps53
  go_wp2
  refine wp_loop_rounds 1 ?_; rw [rounds_succ]; go_wp2
  go_ret
  exact ⟨rfl, rfl⟩
set_option maxHeartbeats 400000 in
theorem markLeaf0 (a : Option Addr) (c : Nat) (k : Int) (w : World) : Calls Try.prog 40 #[.slice a 0 c, .int .i64 k] w fun e w' => e = .returned (.int .i64 k) ∧ w' = w := by
  go_enter Try.func40, Try.ntmps40
  go_wp2
  refine wp_loop_rounds 1 ?_; rw [rounds_succ]; go_wp2
  go_ret
  exact ⟨rfl, rfl⟩
set_option maxHeartbeats 400000 in
theorem markRun0 (a : Option Addr) (c : Nat) (k : Int) (w : World) : Calls Try.prog 60 #[.slice a 0 c, .int .i64 k] w fun e w' => e = .returned (.int .i64 k) ∧ w' = w := by
  go_enter Try.func60, Try.ntmps60
  go_wp2
  refine wp_loop_rounds 1 ?_; rw [rounds_succ]; go_wp2
  go_ret
  exact ⟨rfl, rfl⟩
set_option maxHeartbeats 400000 in
theorem heldLeaf0 (a : Option Addr) (c : Nat) (k : Int) (w : World) : Calls Try.prog 42 #[.slice a 0 c, .int .i64 k] w fun e w' => e = .returned (.int .i64 k) ∧ w' = w := by
  go_enter Try.func42, Try.ntmps42
  go_wp2
  refine wp_loop_rounds 1 ?_; rw [rounds_succ]; go_wp2
  go_ret
  exact ⟨rfl, rfl⟩
set_option maxHeartbeats 400000 in
theorem heldRun0 (a : Option Addr) (c : Nat) (k : Int) (w : World) : Calls Try.prog 62 #[.slice a 0 c, .int .i64 k] w fun e w' => e = .returned (.int .i64 k) ∧ w' = w := by
  go_enter Try.func62, Try.ntmps62
  go_wp2
  refine wp_loop_rounds 1 ?_; rw [rounds_succ]; go_wp2
  go_ret
  exact ⟨rfl, rfl⟩

set_option maxHeartbeats 400000 in
theorem eqCtx0 (a a' : Option Addr) (c c' : Nat) (w : World) : Calls Try.prog 35 #[.agg #[.slice a 0 c], .agg #[.slice a' 0 c']] w fun e w' => e = .returned (.bool true) ∧ Below w.heap.size w w' := by
  go_enter Try.func35, Try.ntmps35
  go_wp2_with fail
  refine (eqRun0 _ _ _ _ _).mono ?_
  rintro e w1 ⟨rfl, rfl⟩
  go_wp2_with fail
  go_ret
  exact ⟨rfl, ((Below.refl _ _).alloc (Nat.le_refl _) _).alloc (by simp) _⟩
set_option maxHeartbeats 400000 in
theorem markCtx0 (a : Option Addr) (c : Nat) (k : Int) (w : World) : Calls Try.prog 41 #[.agg #[.slice a 0 c], .int .i64 k] w fun e w' => e = .returned (.int .i64 k) ∧ Below w.heap.size w w' := by
  go_enter Try.func41, Try.ntmps41
  go_wp2_with fail
  refine (markRun0 _ _ _ _).mono ?_
  rintro e w1 ⟨rfl, rfl⟩
  go_wp2_with fail
  go_ret
  exact ⟨rfl, (Below.refl _ _).alloc (Nat.le_refl _) _⟩
set_option maxHeartbeats 400000 in
theorem heldCtx0 (a : Option Addr) (c : Nat) (w : World) : Calls Try.prog 43 #[.agg #[.slice a 0 c], .int .i64 1] w fun e w' => e = .returned (.int .i64 1) ∧ Below w.heap.size w w' := by
  go_enter Try.func43, Try.ntmps43
  go_wp2_with fail
  refine (heldRun0 _ _ _ _).mono ?_
  rintro e w1 ⟨rfl, rfl⟩
  go_wp2_with fail
  go_ret
  exact ⟨rfl, (Below.refl _ _).alloc (Nat.le_refl _) _⟩

theorem keepN {wr w1 w2 : World} (h1 : Below wr.heap.size wr w1) (b2 : Below w1.heap.size w1 w2) : Below wr.heap.size wr w2 := h1.trans (b2.mono h1.size)

set_option maxHeartbeats 400000 in
theorem eqSt0 (a a' b b' : Option Addr) (c c' d d' : Nat) (w : World) : Calls Try.prog 15 #[.agg #[.slice a 0 c, .slice b 0 d], .agg #[.slice a' 0 c', .slice b' 0 d']] w fun e w' => e = .returned (.bool true) ∧ Below w.heap.size w w' := by
  have b0 : Below w.heap.size w ((w.alloc (.cells #[.slice a 0 c, .slice b 0 d] 27)).alloc (.cells #[.slice a' 0 c', .slice b' 0 d'] 27)) := ((Below.refl _ _).alloc (Nat.le_refl _) _).alloc (by simp) _
  go_enter Try.func15, Try.ntmps15
  go_wp2_with fail
  refine (eqLeaf0 _ _ _ _ _).mono ?_
  rintro e w1 ⟨rfl, rfl⟩
  go_wp2_with fail
  refine (eqCtx0 _ _ _ _ _).mono ?_
  rintro e w2 ⟨rfl, b2⟩
  have B := hid (keepN b0 b2)
  clear b0 b2
  go_wp2_with fail
  go_ret
  exact ⟨rfl, B.out⟩
set_option maxHeartbeats 400000 in
theorem markSt0 (a b : Option Addr) (c d : Nat) (k : Int) (w : World) : Calls Try.prog 23 #[.agg #[.slice a 0 c, .slice b 0 d], .int .i64 k] w fun e w' => e = .returned (.int .i64 k) ∧ Below w.heap.size w w' := by
  have b0 : Below w.heap.size w (w.alloc (.cells #[.slice a 0 c, .slice b 0 d] 27)) := (Below.refl _ _).alloc (Nat.le_refl _) _
  go_enter Try.func23, Try.ntmps23
  go_wp2_with fail
  refine (markLeaf0 _ _ _ _).mono ?_
  rintro e w1 ⟨rfl, rfl⟩
  go_wp2_with fail
  refine (markCtx0 _ _ _ _).mono ?_
  rintro e w2 ⟨rfl, b2⟩
  have B := hid (keepN b0 b2)
  clear b0 b2
  go_wp2_with fail
  go_ret
  exact ⟨rfl, B.out⟩
set_option maxHeartbeats 400000 in
theorem heldSt0 (a b : Option Addr) (c d : Nat) (w : World) : Calls Try.prog 24 #[.agg #[.slice a 0 c, .slice b 0 d], .int .i64 1] w fun e w' => e = .returned (.int .i64 1) ∧ Below w.heap.size w w' := by
  have b0 : Below w.heap.size w (w.alloc (.cells #[.slice a 0 c, .slice b 0 d] 27)) := (Below.refl _ _).alloc (Nat.le_refl _) _
  go_enter Try.func24, Try.ntmps24
  go_wp2_with fail
  refine (heldLeaf0 _ _ _ _).mono ?_
  rintro e w1 ⟨rfl, rfl⟩
  go_wp2_with fail
  refine (heldCtx0 _ _ _).mono ?_
  rintro e w2 ⟨rfl, b2⟩
  have B := hid (keepN b0 b2)
  clear b0 b2
  go_wp2_with fail
  go_ret
  exact ⟨rfl, B.out⟩

def Em (x : Int) (v : Value) : Prop := ∃ a b c d p q r s, v = .agg #[.int .i64 x, .slice a 0 p, .slice b 0 q, .slice c 0 r, .slice d 0 s]

set_option maxHeartbeats 400000 in
theorem eqRep0 (x : Int) (v v' : Value) (h : Em x v) (h' : Em x v') (w : World) : Calls Try.prog 8 #[v, v'] w fun e w' => e = .returned (.bool true) ∧ Below w.heap.size w w' := by
  obtain ⟨a, b, c, d, p, q, r, s, rfl⟩ := h
  obtain ⟨a', b', c', d', p', q', r', s', rfl⟩ := h'
  obtain ⟨W, hW⟩ : ∃ W, (w.alloc (.cells #[.int .i64 x, .slice a 0 p, .slice b 0 q, .slice c 0 r, .slice d 0 s] 29)).alloc (.cells #[.int .i64 x, .slice a' 0 p', .slice b' 0 q', .slice c' 0 r', .slice d' 0 s'] 29) = W := ⟨_, rfl⟩
  have b0 : Below w.heap.size w W := by rw [← hW]; exact ((Below.refl _ _).alloc (Nat.le_refl _) _).alloc (by simp) _
  have hx : (x != x) = false := by simp
  have k0 : W.cell? ⟨w.heap.size, 0, none⟩ = some (.int .i64 x) := by rw [← hW]; simp
  have k1 : W.cell? ⟨w.heap.size, 1, none⟩ = some (.slice a 0 p) := by rw [← hW]; simp
  have k2 : W.cell? ⟨w.heap.size, 2, none⟩ = some (.slice b 0 q) := by rw [← hW]; simp
  have k3 : W.cell? ⟨w.heap.size, 3, none⟩ = some (.slice c 0 r) := by rw [← hW]; simp
  have k4 : W.cell? ⟨w.heap.size, 4, none⟩ = some (.slice d 0 s) := by rw [← hW]; simp
  have l0 : W.cell? ⟨w.heap.size + 1, 0, none⟩ = some (.int .i64 x) := by rw [← hW]; simp
  have l1 : W.cell? ⟨w.heap.size + 1, 1, none⟩ = some (.slice a' 0 p') := by rw [← hW]; simp
  have l2 : W.cell? ⟨w.heap.size + 1, 2, none⟩ = some (.slice b' 0 q') := by rw [← hW]; simp
  have l3 : W.cell? ⟨w.heap.size + 1, 3, none⟩ = some (.slice c' 0 r') := by rw [← hW]; simp
  have l4 : W.cell? ⟨w.heap.size + 1, 4, none⟩ = some (.slice d' 0 s') := by rw [← hW]; simp
  have hz : Hid (W.heap.size = w.heap.size + 2) := by rw [← hW]; exact hid (by simp)
  go_enter Try.func8, Try.ntmps8
  go_wp2_with fail
  try rw [hW]
  clear hW
  refine (eqSt0 _ _ _ _ _ _ _ _ _).mono ?_
  rintro e w1 ⟨rfl, b1⟩
  have B1 := hid (keepN b0 b1)
  have m3 := (b1.cell (p := ⟨w.heap.size, 3, none⟩) (show w.heap.size < W.heap.size by have := hz.out; omega)).trans k3
  have m4 := (b1.cell (p := ⟨w.heap.size, 4, none⟩) (show w.heap.size < W.heap.size by have := hz.out; omega)).trans k4
  have n3 := (b1.cell (p := ⟨w.heap.size + 1, 3, none⟩) (show w.heap.size + 1 < W.heap.size by have := hz.out; omega)).trans l3
  have n4 := (b1.cell (p := ⟨w.heap.size + 1, 4, none⟩) (show w.heap.size + 1 < W.heap.size by have := hz.out; omega)).trans l4
  clear b0 b1 k0 k1 k2 k3 k4 l0 l1 l2 l3 l4
  go_wp2_with fail
  refine (eqSt0 _ _ _ _ _ _ _ _ _).mono ?_
  rintro e w2 ⟨rfl, b2⟩
  have B := hid (keepN B1.out b2)
  clear b2
  go_wp2_with fail
  go_ret
  exact ⟨rfl, B.out⟩
set_option maxHeartbeats 400000 in
theorem markRep0 (x : Int) (v : Value) (h : Em x v) (w : World) : Calls Try.prog 9 #[v, .int .i64 1] w fun e w' => e = .returned (.int .i64 1) ∧ Below w.heap.size w w' := by
  obtain ⟨a, b, c, d, p, q, r, s, rfl⟩ := h
  obtain ⟨W, hW⟩ : ∃ W, w.alloc (.cells #[.int .i64 x, .slice a 0 p, .slice b 0 q, .slice c 0 r, .slice d 0 s] 29) = W := ⟨_, rfl⟩
  have b0 : Below w.heap.size w W := by rw [← hW]; exact (Below.refl _ _).alloc (Nat.le_refl _) _
  have k0 : W.cell? ⟨w.heap.size, 0, none⟩ = some (.int .i64 x) := by rw [← hW]; simp
  have k1 : W.cell? ⟨w.heap.size, 1, none⟩ = some (.slice a 0 p) := by rw [← hW]; simp
  have k2 : W.cell? ⟨w.heap.size, 2, none⟩ = some (.slice b 0 q) := by rw [← hW]; simp
  have k3 : W.cell? ⟨w.heap.size, 3, none⟩ = some (.slice c 0 r) := by rw [← hW]; simp
  have k4 : W.cell? ⟨w.heap.size, 4, none⟩ = some (.slice d 0 s) := by rw [← hW]; simp
  have hz : Hid (W.heap.size = w.heap.size + 1) := by rw [← hW]; exact hid (by simp)
  go_enter Try.func9, Try.ntmps9
  go_wp2_with fail
  try rw [hW]
  clear hW
  refine (markSt0 _ _ _ _ _ _).mono ?_
  rintro e w1 ⟨rfl, b1⟩
  have B1 := hid (keepN b0 b1)
  have m3 := (b1.cell (p := ⟨w.heap.size, 3, none⟩) (show w.heap.size < W.heap.size by have := hz.out; omega)).trans k3
  have m4 := (b1.cell (p := ⟨w.heap.size, 4, none⟩) (show w.heap.size < W.heap.size by have := hz.out; omega)).trans k4
  clear b0 b1 k0 k1 k2 k3 k4
  go_wp2_with fail
  refine (markSt0 _ _ _ _ _ _).mono ?_
  rintro e w2 ⟨rfl, b2⟩
  have B := hid (keepN B1.out b2)
  clear b2
  go_wp2_with fail
  go_ret
  exact ⟨rfl, B.out⟩
set_option maxHeartbeats 400000 in
theorem heldRep0 (x : Int) (v : Value) (h : Em x v) (w : World) : Calls Try.prog 10 #[v, .int .i64 1] w fun e w' => e = .returned (.int .i64 1) ∧ Below w.heap.size w w' := by
  obtain ⟨a, b, c, d, p, q, r, s, rfl⟩ := h
  obtain ⟨W, hW⟩ : ∃ W, w.alloc (.cells #[.int .i64 x, .slice a 0 p, .slice b 0 q, .slice c 0 r, .slice d 0 s] 29) = W := ⟨_, rfl⟩
  have b0 : Below w.heap.size w W := by rw [← hW]; exact (Below.refl _ _).alloc (Nat.le_refl _) _
  have k0 : W.cell? ⟨w.heap.size, 0, none⟩ = some (.int .i64 x) := by rw [← hW]; simp
  have k1 : W.cell? ⟨w.heap.size, 1, none⟩ = some (.slice a 0 p) := by rw [← hW]; simp
  have k2 : W.cell? ⟨w.heap.size, 2, none⟩ = some (.slice b 0 q) := by rw [← hW]; simp
  have k3 : W.cell? ⟨w.heap.size, 3, none⟩ = some (.slice c 0 r) := by rw [← hW]; simp
  have k4 : W.cell? ⟨w.heap.size, 4, none⟩ = some (.slice d 0 s) := by rw [← hW]; simp
  have hz : Hid (W.heap.size = w.heap.size + 1) := by rw [← hW]; exact hid (by simp)
  go_enter Try.func10, Try.ntmps10
  go_wp2_with fail
  try rw [hW]
  clear hW
  refine (heldSt0 _ _ _ _ _).mono ?_
  rintro e w1 ⟨rfl, b1⟩
  have B1 := hid (keepN b0 b1)
  have m3 := (b1.cell (p := ⟨w.heap.size, 3, none⟩) (show w.heap.size < W.heap.size by have := hz.out; omega)).trans k3
  have m4 := (b1.cell (p := ⟨w.heap.size, 4, none⟩) (show w.heap.size < W.heap.size by have := hz.out; omega)).trans k4
  clear b0 b1 k0 k1 k2 k3 k4
  go_wp2_with fail
  refine (heldSt0 _ _ _ _ _).mono ?_
  rintro e w2 ⟨rfl, b2⟩
  have B := hid (keepN B1.out b2)
  clear b2
  go_wp2_with fail
  go_ret
  exact ⟨rfl, B.out⟩

def okR (x : Int) : Bool := decide (0 ≤ x) && decide (x < 8)
def idR (x : Int) : Int := if okR x = true then x else 0

set_option maxHeartbeats 400000 in
theorem empC (w : World) : Calls Try.prog 21 #[] w fun e w' => (∃ a b, e = .returned (.agg #[.slice (some a) 0 0, .slice (some b) 0 0])) ∧ Below w.heap.size w w' := by
  go_enter Try.func21, Try.ntmps21
  go_wp2_with fail
  refine bodyPost_ret (v := .agg #[.slice (some ⟨w.heap.size + 1, 0, none⟩) 0 0, .slice (some ⟨w.heap.size + 1 + 1, 0, none⟩) 0 0]) (by simp [results, Try.results21, go_sem]) rfl ?_
  exact ⟨⟨_, _, rfl⟩, (((Below.refl _ _).alloc (Nat.le_refl _) _).alloc (by simp) _).alloc (by simp; omega) _⟩
set_option maxHeartbeats 400000 in
theorem repOkC (x : Int) (w : World) (h0 : -9223372036854775808 ≤ x) (h1 : x ≤ 9223372036854775807) : Calls Try.prog 22 #[.int .i64 x] w fun e w' => e = .returned (.bool (okR x)) ∧ w' = w := by
  by_cases a : 0 ≤ x
  · by_cases b : x < 8
    · have e : Hid (okR x = true) := hid (by simp [okR]; omega)
      rw [e.out]
      go_enter Try.func22, Try.ntmps22
      go_wp2_with fail
      go_ret
      exact ⟨rfl, rfl⟩
    · have e : Hid (okR x = false) := hid (by simp [okR]; omega)
      rw [e.out]
      have d1 : decide (x < 8) = false := by simpa using b
      go_enter Try.func22, Try.ntmps22
      go_wp2_with fail
      go_ret
      exact ⟨rfl, rfl⟩
  · have e : Hid (okR x = false) := hid (by simp [okR]; omega)
    rw [e.out]
    have d1 : decide (0 ≤ x) = false := by simpa using a
    go_enter Try.func22, Try.ntmps22
    go_wp2_with fail
    go_ret
    exact ⟨rfl, rfl⟩
set_option maxHeartbeats 400000 in
theorem implC (x : Int) (w : World) (h0 : -9223372036854775808 ≤ x) (h1 : x ≤ 9223372036854775807) : Calls Try.prog 7 #[.int .i64 x] w fun e w' => (∃ v, e = .returned (.tuple #[v, .bool (okR x)]) ∧ Em (idR x) v) ∧ Below w.heap.size w w' := by
  have HR := hid (fun w' => repOkC x w' h0 h1)
  by_cases hk : okR x = true
  · have e : Hid (idR x = x) := hid (by simp [idR, hk])
    rw [e.out, hk]
    rw [hk] at HR
    clear hk
    go_enter Try.func7, Try.ntmps7
    go_wp2_with fail
    refine (HR.out _).mono ?_
    rintro e w1 ⟨rfl, rfl⟩
    go_wp2_with fail
    refine bodyPost_ret (v := .tuple #[.agg #[.int .i64 x, .slice none 0 0, .slice none 0 0, .slice none 0 0, .slice none 0 0], .bool true]) (by simp [results, Try.results7, go_sem]) rfl ?_
    exact ⟨⟨_, rfl, _, _, _, _, _, _, _, _, rfl⟩, (Below.refl _ _).alloc (Nat.le_refl _) _⟩
  · have hk' : okR x = false := by simpa using hk
    have e : Hid (idR x = 0) := hid (by simp [idR, hk'])
    rw [e.out, hk']
    rw [hk'] at HR
    clear hk hk'
    go_enter Try.func7, Try.ntmps7
    go_wp2_with fail
    refine (HR.out _).mono ?_
    rintro e w1 ⟨rfl, rfl⟩
    go_wp2_with fail
    refine bodyPost_ret (v := .tuple #[.agg #[.int .i64 0, .slice none 0 0, .slice none 0 0, .slice none 0 0, .slice none 0 0], .bool false]) (by simp [results, Try.results7, go_sem]) rfl ?_
    exact ⟨⟨_, rfl, _, _, _, _, _, _, _, _, rfl⟩, (Below.refl _ _).alloc (Nat.le_refl _) _⟩
set_option maxHeartbeats 400000 in
theorem specC (x : Int) (w : World) (h0 : -9223372036854775808 ≤ x) (h1 : x ≤ 9223372036854775807) : Calls Try.prog 6 #[.int .i64 x] w fun e w' => (∃ v, e = .returned (.tuple #[v, .bool (okR x)]) ∧ Em (idR x) v) ∧ Below w.heap.size w w' := by
  by_cases a : 0 ≤ x
  · by_cases b : x < 8
    · have e1 : Hid (okR x = true) := hid (by simp [okR]; omega)
      have e : Hid (idR x = x) := hid (by simp [idR, e1.out])
      rw [e.out, e1.out]
      obtain ⟨W, hW⟩ : ∃ W, w.alloc (.cells #[.int .i64 0, .slice none 0 0, .slice none 0 0, .slice none 0 0, .slice none 0 0] 29) = W := ⟨_, rfl⟩
      have b0 : Below w.heap.size w W := by rw [← hW]; exact (Below.refl _ _).alloc (Nat.le_refl _) _
      have hz : Hid (W.heap.size = w.heap.size + 1) := by rw [← hW]; exact hid (by simp)
      have k0 : W.cell? ⟨w.heap.size, 0, none⟩ = some (.int .i64 0) := by rw [← hW]; simp
      have k1 : W.cell? ⟨w.heap.size, 1, none⟩ = some (.slice none 0 0) := by rw [← hW]; simp
      have k2 : W.cell? ⟨w.heap.size, 2, none⟩ = some (.slice none 0 0) := by rw [← hW]; simp
      have k3 : W.cell? ⟨w.heap.size, 3, none⟩ = some (.slice none 0 0) := by rw [← hW]; simp
      have k4 : W.cell? ⟨w.heap.size, 4, none⟩ = some (.slice none 0 0) := by rw [← hW]; simp
      have fz : ∀ i, W.frozen? ⟨w.heap.size, i, none⟩ = false := fun i => by rw [← hW]; simp
      go_enter Try.func6, Try.ntmps6
      go_wp2_with fail
      try rw [hW]
      clear hW
      refine (empC _).mono ?_
      rintro e w1 ⟨⟨p, q, rfl⟩, b1⟩
      go_wp2_with fail
      refine (empC _).mono ?_
      rintro e w2 ⟨⟨r, s, rfl⟩, b2⟩
      have b12 := keepN b1 b2
      have B := hid (keepN b0 b12)
      have cc := fun (i : Nat) => b12.cell (p := ⟨w.heap.size, i, none⟩) (show w.heap.size < W.heap.size by have := hz.out; omega)
      have ff := fun (i : Nat) => b12.frozen (p := ⟨w.heap.size, i, none⟩) (show w.heap.size < W.heap.size by have := hz.out; omega)
      have m0 := (cc 0).trans k0
      have m1 := (cc 1).trans k1
      have m2 := (cc 2).trans k2
      have m3 := (cc 3).trans k3
      have m4 := (cc 4).trans k4
      have f0 := (ff 0).trans (fz 0)
      have f1 := (ff 1).trans (fz 1)
      have f2 := (ff 2).trans (fz 2)
      have f3 := (ff 3).trans (fz 3)
      have f4 := (ff 4).trans (fz 4)
      clear b0 b1 b2 b12 cc ff fz k0 k1 k2 k3 k4
      go_wp2_with fail
      refine bodyPost_ret (v := .tuple #[.agg #[.int .i64 x, .slice (some p) 0 0, .slice (some q) 0 0, .slice (some r) 0 0, .slice (some s) 0 0], .bool true]) (by simp [results, Try.results6, go_sem, World.cell?_setCell_other, World.cell?_setCell_same _ _ _ m0, m1, m2, m3, m4]) rfl ?_
      exact ⟨⟨_, rfl, _, _, _, _, _, _, _, _, rfl⟩, ((((B.out.setCell (p := ⟨w.heap.size, 0, none⟩) (Nat.le_refl _) _).setCell (p := ⟨w.heap.size, 1, none⟩) (Nat.le_refl _) _).setCell (p := ⟨w.heap.size, 2, none⟩) (Nat.le_refl _) _).setCell (p := ⟨w.heap.size, 3, none⟩) (Nat.le_refl _) _).setCell (p := ⟨w.heap.size, 4, none⟩) (Nat.le_refl _) _⟩
    · have e1 : Hid (okR x = false) := hid (by simp [okR]; omega)
      have e : Hid (idR x = 0) := hid (by simp [idR, e1.out])
      rw [e.out, e1.out]
      have d0 : decide (x < 0) = false := by simpa using a
      have d1 : decide (8 ≤ x) = true := by simp; omega
      go_enter Try.func6, Try.ntmps6
      go_wp2_with fail
      refine bodyPost_ret (v := .tuple #[.agg #[.int .i64 0, .slice none 0 0, .slice none 0 0, .slice none 0 0, .slice none 0 0], .bool false]) (by simp [results, Try.results6, go_sem]) rfl ?_
      exact ⟨⟨_, rfl, _, _, _, _, _, _, _, _, rfl⟩, (Below.refl _ _).alloc (Nat.le_refl _) _⟩
  · have e1 : Hid (okR x = false) := hid (by simp [okR]; omega)
    have e : Hid (idR x = 0) := hid (by simp [idR, e1.out])
    rw [e.out, e1.out]
    have d0 : decide (x < 0) = true := by simp; omega
    go_enter Try.func6, Try.ntmps6
    go_wp2_with fail
    refine bodyPost_ret (v := .tuple #[.agg #[.int .i64 0, .slice none 0 0, .slice none 0 0, .slice none 0 0, .slice none 0 0], .bool false]) (by simp [results, Try.results6, go_sem]) rfl ?_
    exact ⟨⟨_, rfl, _, _, _, _, _, _, _, _, rfl⟩, (Below.refl _ _).alloc (Nat.le_refl _) _⟩
end Go.Proofs.Ytbimcammjohaoad.fnExactNewReplica
