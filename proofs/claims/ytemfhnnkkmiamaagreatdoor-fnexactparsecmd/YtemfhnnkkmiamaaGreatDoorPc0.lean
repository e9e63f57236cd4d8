import Derived.Test.YtemfhnnkkmiamaaGreatDoorRun
import Derived.Deep.QuietTactic
import Derived.BigQuiet
namespace Go.Proofs.YtemfhnnkkmiamaaGreatDoor
open Go.ChangeShapes Go.WideShapes Go.ChangeAt Go.RowKit
set_option linter.unusedVariables false
set_option linter.unusedSimpArgs false
theorem keepS {wr w1 w2 : World} (h1 : Below wr.heap.size wr w1) (b2 : Below w1.heap.size w1 w2) : Below wr.heap.size wr w2 := h1.trans (b2.mono h1.size)

def gS (p : List ByteArray) (i : Nat) : ByteArray := p.getD i ByteArray.empty
def SSeg (w : World) (a : Option Addr) (p : List ByteArray) : Prop :=
  p.length = 0 ∨ ∃ b off, a = some ⟨b, off, none⟩ ∧ b < w.heap.size ∧ ∀ i, i < p.length → w.cell? ⟨b, off + i, none⟩ = some (.string (gS p i))
theorem SSeg.kept {w w1 : World} {B : Nat} {a : Option Addr} {p : List ByteArray} (h : SSeg w a p) (hb : Below B w w1) (hB : w.heap.size ≤ B) : SSeg w1 a p := by
  refine h.imp id ?_
  rintro ⟨b, off, e, hlt, hc⟩
  exact ⟨b, off, e, Nat.lt_of_lt_of_le hlt hb.size, fun i hi => (hb.cell (p := ⟨b, off + i, none⟩) (Nat.lt_of_lt_of_le hlt hB)).trans (hc i hi)⟩
theorem SSeg.below {w w1 : World} {a : Option Addr} {p : List ByteArray} (h : SSeg w a p) (hb : Below w.heap.size w w1) : SSeg w1 a p := h.kept hb (Nat.le_refl _)
set_option maxRecDepth 100000 in
set_option maxHeartbeats 1000000 in
theorem eqStrings (a a' : Option Addr) (c c' : Nat) (p : List ByteArray) (w : World) (hn : p.length ≤ 4194304) (h : SSeg w a p) (h' : SSeg w a' p) :
    Calls Tryz.prog 16 #[.slice a p.length c, .slice a' p.length c'] w fun e w' => e = .returned (.bool true) ∧ Below w.heap.size w w' := by
  by_cases h0 : p.length = 0
  · rw [h0]
    go_enter Tryz.func16, Tryz.ntmps16
    go_wp2_with fail
    refine wp_loop_rounds 1 ?_; rw [rounds_succ]; go_wp2_with fail
    go_ret
    exact ⟨rfl, Below.refl _ _⟩
  · rcases h with h | ⟨b, off, rfl, hb, hc⟩
    · exact absurd h h0
    rcases h' with h' | ⟨b', off', rfl, hb', hc'⟩
    · exact absurd h' h0
    go_enter Tryz.func16, Tryz.ntmps16
    go_wp2_with fail
    go_loopw [5] (fun i wr => ∃ k : Nat, k ≤ p.length ∧ i = .int .i64 k ∧ Below w.heap.size w wr) (fun i _ => p.length - (intOf i).toNat)
    case atStart => exact ⟨0, Nat.zero_le _, rfl, Below.refl _ _⟩
    case round =>
      obtain ⟨k, hk, rfl, hbel⟩ := hrel
      by_cases hlt : k < p.length
      · have x0 := (hbel.cell (p := ⟨b, off + k, none⟩) hb).trans (hc k hlt)
        have y0 := (hbel.cell (p := ⟨b', off' + k, none⟩) hb').trans (hc' k hlt)
        obtain ⟨s, hs⟩ : ∃ s, gS p k = s := ⟨_, rfl⟩
        rw [hs] at x0 y0
        have hk0 : (0 : Int) ≤ (k : Int) := Int.natCast_nonneg _
        have hk1 : (k : Int) < (p.length : Int) := by omega
        have ds : (s.toList == s.toList) = true := by simp
        have HB := hid hbel
        clear hc hc' hbel hs
        go_wp2_with fail
        go_quiet (fail)
        have HN := hid (show Below w.heap.size w (wr.drewN nq) from ⟨HB.out.os, HB.out.tape, HB.out.output, HB.out.size, HB.out.block⟩)
        go_wp2_with fail
        go_roundw
        case rel => exact ⟨k + 1, hlt, by go_num, HN.out⟩
        case measure => simp [intOf]; omega
      · obtain rfl : k = p.length := by omega
        have HB := hid hbel
        clear hc hc' hbel
        go_wp2_with fail
        go_ret
        exact ⟨rfl, HB.out⟩
end Go.Proofs.YtemfhnnkkmiamaaGreatDoor
