import Derived.Test.YthkppnmnjboiaaaDoorGu
import Derived.Test.YthkppnmnjboiaaaDoorErr
import Derived.Deep.QuietTactic
import Derived.BigQuiet
namespace Go.Proofs.YthkppnmnjboiaaaDoor
open Go.ChangeShapes Go.WideShapes Go.ChangeAt Go.RowKit
set_option linter.unusedVariables false
set_option linter.unusedSimpArgs false

structure Errs (w : World) (B : Nat) (aT aS aL aE : Addr) : Prop where
  gT : w.cell? ⟨1, 0, none⟩ = some (.iface 103 (.pointer (some aT)))
  gS : w.cell? ⟨2, 0, none⟩ = some (.iface 103 (.pointer (some aS)))
  gE : w.cell? ⟨0, 0, none⟩ = some (.iface 103 (.pointer (some aE)))
  nTS : aT ≠ aS
  nTE : aT ≠ aE
  nSE : aS ≠ aE
  bT : ∃ c t, w.heap[aT.block]? = some (.cells c t (0, 0))
  bS : ∃ c t, w.heap[aS.block]? = some (.cells c t (0, 0))
  bE : ∃ c t, w.heap[aE.block]? = some (.cells c t (0, 0))
  lG : 3 ≤ B
  lT : aT.block < B
  lS : aS.block < B
  lE : aE.block < B

theorem Errs.below {w w' : World} {B : Nat} {aT aS aL aE : Addr} (h : Errs w B aT aS aL aE) (hb : Below B w w') : Errs w' B aT aS aL aE := by
  have hg := h.lG
  exact { gT := (hb.cell (p := ⟨1, 0, none⟩) (Nat.lt_of_lt_of_le (by decide) hg)).trans h.gT
          gS := (hb.cell (p := ⟨2, 0, none⟩) (Nat.lt_of_lt_of_le (by decide) hg)).trans h.gS
          gE := (hb.cell (p := ⟨0, 0, none⟩) (Nat.lt_of_lt_of_le (by decide) hg)).trans h.gE
          nTS := h.nTS, nTE := h.nTE, nSE := h.nSE
          bT := by rw [hb.block _ h.lT]; exact h.bT
          bS := by rw [hb.block _ h.lS]; exact h.bS
          bE := by rw [hb.block _ h.lE]; exact h.bE
          lG := h.lG, lT := h.lT, lS := h.lS, lE := h.lE }

def Cur (w : World) (cb : Nat) (a : Option Addr) (n c : Nat) (x : Int) : Prop := w.cell? ⟨cb, 0, none⟩ = some (.slice a n c) ∧ w.cell? ⟨cb, 1, none⟩ = some (.int .i64 x) ∧ w.frozen? ⟨cb, 1, none⟩ = false
theorem Cur.lt {w : World} {cb : Nat} {a : Option Addr} {n c : Nat} {x : Int} (h : Cur w cb a n c x) : cb < w.heap.size := by
  rcases Nat.lt_or_ge cb w.heap.size with h1 | h1
  · exact h1
  · have := h.1; simp [World.cell?, Array.getElem?_eq_none h1] at this
theorem Cur.below {w w' : World} {B cb : Nat} {a : Option Addr} {n c : Nat} {x : Int} (h : Cur w cb a n c x) (hb : Below B w w') (hB : cb < B) : Cur w' cb a n c x :=
  ⟨(hb.cell (p := ⟨cb, 0, none⟩) hB).trans h.1, (hb.cell (p := ⟨cb, 1, none⟩) hB).trans h.2.1, (hb.frozen (p := ⟨cb, 1, none⟩) hB).trans h.2.2⟩
theorem Cur.set {w : World} {cb : Nat} {a : Option Addr} {n c : Nat} {x : Int} (h : Cur w cb a n c x) (y : Int) : Cur (w.setCell ⟨cb, 1, none⟩ (.int .i64 y)) cb a n c y := by
  obtain ⟨h1, h2, h3⟩ := h
  refine ⟨?_, ?_, ?_⟩
  · simp [World.cell?_setCell_other, h1]
  · exact World.cell?_setCell_same _ _ _ h2
  · rw [World.frozen?_setCell]; exact h3
theorem grown_set {w w1 : World} {cb i : Nat} (h : w.grownBy w1 none) (v : Value) : w.grownBy (w1.setCell ⟨cb, i, none⟩ v) (some cb) := by
  refine ⟨h.os, h.tape, h.output, ?_, fun k hk hne => ?_⟩
  · have := h.size; simpa [World.setCell] using this
  · exact (Below.heap_setCell _ _ _ _ (fun e => hne (by rw [e]))).trans (h.block k hk (by simp))
theorem grown_drewN (w : World) (n : Nat) (row : Option Nat) : w.grownBy (w.drewN n) row := ⟨rfl, rfl, rfl, Nat.le_refl _, fun _ _ _ => rfl⟩
theorem below_drewN {B : Nat} {a w : World} (h : Below B a w) (n : Nat) : Below B a (w.drewN n) := ⟨h.os, h.tape, h.output, h.size, h.block⟩

set_option maxRecDepth 100000 in
set_option maxHeartbeats 1000000 in
theorem next_end (cb : Nat) (a : Option Addr) (n c : Nat) (x : Int) (aE : Addr) (w : World) (hn : n ≤ 4194304) (hcur : Cur w cb a n c x) (hx : x < 0 ∨ (n : Int) ≤ x) (hg : w.cell? ⟨0, 0, none⟩ = some (.iface 103 (.pointer (some aE)))) :
    Calls Tryd.prog 32 #[.pointer (some ⟨cb, 0, none⟩)] w fun e w' => e = .returned (.tuple #[.int .u8 0, .iface 103 (.pointer (some aE))]) ∧ Below w.heap.size w w' := by
  obtain ⟨k0, k1, k2⟩ := hcur
  by_cases h0 : x < 0
  · go_enter Tryd.func32, Tryd.ntmps32
    go_wp2_with fail
    go_quiet (fail)
    go_wp2_with fail
    go_quiet (fail)
    go_wp2_with fail
    go_ret2
    exact ⟨rfl, by simp; exact below_drewN (Below.refl _ _) _⟩
  · have h1 : (n : Int) ≤ x := by omega
    have hd : decide (x < 0) = false := by simpa using h0
    go_enter Tryd.func32, Tryd.ntmps32
    go_wp2_with fail
    go_quiet (fail)
    go_wp2_with fail
    go_quiet (fail)
    go_wp2_with fail
    go_ret2
    exact ⟨rfl, by simp; exact below_drewN (Below.refl _ _) _⟩

set_option maxRecDepth 100000 in
set_option maxHeartbeats 1000000 in
theorem next_ok (cb b off n c p : Nat) (z : Int) (w : World) (hn : n ≤ 4194304) (hcur : Cur w cb (some ⟨b, off, none⟩) n c (p : Int)) (hp : p < n) (hc : w.cell? ⟨b, off + p, none⟩ = some (.int .u8 z)) :
    Calls Tryd.prog 32 #[.pointer (some ⟨cb, 0, none⟩)] w fun e w' => e = .returned (.tuple #[.int .u8 z, .nilIface]) ∧ Cur w' cb (some ⟨b, off, none⟩) n c ((p + 1 : Nat) : Int) ∧ w.grownBy w' (some cb) := by
  have HC := hid hcur
  obtain ⟨k0, k1, k2⟩ := hcur
  have hd : decide ((p : Int) < 0) = false := by simp
  have h1 : decide ((n : Int) ≤ (p : Int)) = false := by simp; omega
  have hp0 : (0 : Int) ≤ (p : Int) := Int.natCast_nonneg _
  have hpn : (p : Int) < (n : Int) := by omega
  go_enter Tryd.func32, Tryd.ntmps32
  go_wp2_with fail
  go_quiet (fail)
  go_wp2_with fail
  go_quiet (fail)
  go_wp2_with fail
  go_ret2
  refine ⟨rfl, ?_, ?_⟩
  · first | exact HC.out.set _ | (simp; exact HC.out.set _)
  · first | exact grown_set (grown_drewN _ _ _) _ | (simp; exact grown_set (grown_drewN _ _ _) _)

set_option maxHeartbeats 400000 in
theorem vb_ok (z j : Nat) (w : World) (hz : z < 256) (h9 : 9 ≤ j → z ≤ 1) (h0 : 0 < j → 0 < z) (hj : j ≤ 9) :
    Calls Tryd.prog 41 #[.int .u8 (z : Int), .int .i64 (j : Int)] w fun e w' => e = .returned .nilIface ∧ w' = w := by
  by_cases hj9 : 9 ≤ j
  · have hz1 := h9 hj9
    have hz0 := h0 (by omega)
    clear h9 h0
    go_enter Tryd.func41, Tryd.ntmps41
    go_wp2_with fail
    go_ret
    exact ⟨rfl, rfl⟩
  · by_cases hj0 : 0 < j
    · have hz0 := h0 hj0
      clear h9 h0
      go_enter Tryd.func41, Tryd.ntmps41
      go_wp2_with fail
      go_ret
      exact ⟨rfl, rfl⟩
    · clear h9 h0
      go_enter Tryd.func41, Tryd.ntmps41
      go_wp2_with fail
      go_ret
      exact ⟨rfl, rfl⟩

set_option maxHeartbeats 400000 in
theorem vb_tenth (z j : Nat) (aT : Addr) (w : World) (hz : z < 256) (hz1 : 1 < z) (hj9 : 9 ≤ j) (hj : j ≤ 9) (hg : w.cell? ⟨1, 0, none⟩ = some (.iface 103 (.pointer (some aT)))) :
    Calls Tryd.prog 41 #[.int .u8 (z : Int), .int .i64 (j : Int)] w fun e w' => e = .returned (.iface 103 (.pointer (some aT))) ∧ w' = w := by
  go_enter Tryd.func41, Tryd.ntmps41
  go_wp2_with fail
  go_ret
  exact ⟨rfl, rfl⟩

set_option maxHeartbeats 400000 in
theorem vb_short (z j : Nat) (aS : Addr) (w : World) (hz : z ≤ 0) (hj : 0 < j) (hj9 : j ≤ 9) (hg : w.cell? ⟨2, 0, none⟩ = some (.iface 103 (.pointer (some aS)))) :
    Calls Tryd.prog 41 #[.int .u8 (z : Int), .int .i64 (j : Int)] w fun e w' => e = .returned (.iface 103 (.pointer (some aS))) ∧ w' = w := by
  by_cases h9 : 9 ≤ j
  · go_enter Tryd.func41, Tryd.ntmps41
    go_wp2_with fail
    go_ret
    exact ⟨rfl, rfl⟩
  · go_enter Tryd.func41, Tryd.ntmps41
    go_wp2_with fail
    go_ret
    exact ⟨rfl, rfl⟩
end Go.Proofs.YthkppnmnjboiaaaDoor
