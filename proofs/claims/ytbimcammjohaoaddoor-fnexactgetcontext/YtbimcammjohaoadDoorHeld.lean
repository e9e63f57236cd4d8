import Derived.Test.YtbimcammjohaoadDoorMark
namespace Go.Proofs.YtbimcammjohaoadDoor
open Go.ChangeShapes Go.WideShapes Go.ChangeAt Go.RowKit
set_option linter.unusedVariables false
set_option linter.unusedSimpArgs false

set_option maxRecDepth 100000 in
set_option maxHeartbeats 400000 in
theorem heldRunS (a : Option Addr) (n cap k0 : Nat) (w : World) (hk0 : k0 ≤ 1000000000000) (hn1 : n ≤ 1000000000) (h : RSeg w a n (mk3 k0 0) (mk3 k0 1) (mk3 k0 2)) :
    Calls Tryd.prog 30 #[.slice a n cap, .int .i64 (k0 : Int)] w fun e w' => e = .returned (.int .i64 ((k0 + 3 * n : Nat) : Int)) ∧ w' = w := by
  rcases h with h | ⟨b, off, rfl, hb, hc⟩
  · subst h
    go_enter Tryd.func30, Tryd.ntmps30
    go_wp2
    refine wp_loop_rounds 1 ?_; rw [rounds_succ]; go_wp2
    go_ret
    exact ⟨rfl, rfl⟩
  · go_enter Tryd.func30, Tryd.ntmps30
    go_wp2
    go_loop [1, 5] (fun k i => ∃ (j m : Nat), j ≤ n ∧ Hid (m = k0 + 3 * j) ∧ i = .int .i64 (j : Int) ∧ k = .int .i64 (m : Int)) (fun _ i => n - (intOf i).toNat)
    case atStart => exact ⟨0, k0, Nat.zero_le _, hid (by omega), rfl, rfl⟩
    case round =>
      obtain ⟨j, m, hj, hm, rfl, rfl⟩ := hrel
      by_cases hlt : j < n
      · have h0 : w.cell? ⟨b, off + j * 3, none⟩ = some (.int .i64 (m : Int)) := by rw [(hc j hlt).1]; unfold mk3; have := hm.out; congr 2; omega
        have h1 : w.cell? ⟨b, off + j * 3 + 1, none⟩ = some (.int .i64 ((m : Int) + 1)) := by rw [(hc j hlt).2.1]; unfold mk3; have := hm.out; congr 2; omega
        have h2 : w.cell? ⟨b, off + j * 3 + 2, none⟩ = some (.int .i64 ((m : Int) + 1 + 1)) := by rw [(hc j hlt).2.2]; unfold mk3; have := hm.out; congr 2; omega
        have hmb : m ≤ 1000000000000 + 3000000000 := by have := hm.out; omega
        clear hc
        go_wp2
        go_round
        case rel => exact ⟨j + 1, m + 3, hlt, hid (by have := hm.out; omega), by go_num, by go_num⟩
        case measure => simp [intOf]; omega
      · obtain rfl : j = n := by omega
        clear hc
        have e := hm.out
        clear hm
        subst e
        go_wp2
        go_ret
        exact ⟨by simp, rfl⟩

set_option maxRecDepth 100000 in
set_option maxHeartbeats 400000 in
theorem heldContext (a : Option Addr) (n cap k0 : Nat) (w : World) (hk0 : k0 ≤ 1000000000000) (hn1 : n ≤ 1000000000) (h : RSeg w a n (mk3 k0 0) (mk3 k0 1) (mk3 k0 2)) :
    Calls Tryd.prog 12 #[.agg #[.slice a n cap], .int .i64 (k0 : Int)] w fun e w' => e = .returned (.int .i64 ((k0 + 3 * n : Nat) : Int)) ∧ Below w.heap.size w w' := by
  have HB0 : Hid (Below w.heap.size w (w.alloc (.cells #[.slice a n cap] 25))) := (Below.refl _ _).alloc (Nat.le_refl _) _
  go_enter Tryd.func12, Tryd.ntmps12
  go_wp2_with fail
  refine (heldRunS a n cap k0 _ hk0 hn1 (h.below HB0.out)).mono ?_
  rintro e w1 ⟨rfl, rfl⟩
  go_wp2_with fail
  go_ret
  exact ⟨by simp, HB0.out⟩

set_option maxRecDepth 100000 in
set_option maxHeartbeats 400000 in
theorem markRun0 (a : Option Addr) (cap k0 : Nat) (w : World) :
    Calls Tryd.prog 29 #[.slice a 0 cap, .int .i64 (k0 : Int)] w fun e w' => e = .returned (.int .i64 (k0 : Int)) ∧ w' = w := by
  go_enter Tryd.func29, Tryd.ntmps29
  go_wp2
  refine wp_loop_rounds 1 ?_; rw [rounds_succ]; go_wp2
  go_ret
  exact ⟨rfl, rfl⟩

set_option maxRecDepth 100000 in
set_option maxHeartbeats 400000 in
theorem markContext0 (a : Option Addr) (cap k0 : Nat) (w : World) (hk0 : k0 ≤ 1000000000000) :
    Calls Tryd.prog 11 #[.agg #[.slice a 0 cap], .int .i64 (k0 : Int)] w fun e w' => e = .returned (.int .i64 (k0 : Int)) ∧ Below w.heap.size w w' := by
  have HB0 : Hid (Below w.heap.size w (w.alloc (.cells #[.slice a 0 cap] 25))) := (Below.refl _ _).alloc (Nat.le_refl _) _
  go_enter Tryd.func11, Tryd.ntmps11
  go_wp2_with fail
  refine (markRun0 a cap k0 _).mono ?_
  rintro e w1 ⟨rfl, rfl⟩
  go_wp2_with fail
  go_ret
  exact ⟨rfl, HB0.out⟩
end Go.Proofs.YtbimcammjohaoadDoor
