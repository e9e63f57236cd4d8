import Derived.Test.YtmhhmkgfhhnakacUnI
import Derived.Test.YtmhhmkgfhhnakacUnS2
import Derived.Test.YtmhhmkgfhhnakacHeld
import Derived.Test.YtmhhmkgfhhnakacEq
import Derived.Test.YtmhhmkgfhhnakacOpen
namespace Go.Proofs.Ytmhhmkgfhhnakac
open Go.ChangeShapes Go.WideShapes Go.ChangeAt Go.RowKit Go.Maps Go.Sort
set_option linter.unusedVariables false
set_option linter.unusedSimpArgs false

theorem unZ_len (R F T : Nat → Int) (n : Nat) (R' F' T' : Nat → Int) (n' : Nat) : (unZ R F T n R' F' T' n').length ≤ 1000 := by
  unfold unZ
  split
  · rename_i h
    unfold unB at h
    have := (Bool.and_eq_true_iff.1 h).2
    simpa using this
  · simp

theorem FS.rseg {w : World} {a : Option Addr} {l : List Rn} (h : FS w a l) : RSeg w a l.length (fun i => (gR l i).1) (fun i => (gR l i).2.1) (fun i => (gR l i).2.2) := h

theorem eqFR {w : World} {B B' : Nat} {v v' : Value} {l : List Rn} (h : FR w B v l) (h' : FR w B' v' l) (hl : l.length ≤ 1048576) :
    Calls Try.prog 10 #[.agg #[v], .agg #[v']] w fun e w' => e = .returned (.bool true) ∧ Below w.heap.size w w' := by
  obtain ⟨a, c, rfl, s, _, _⟩ := h.fs
  obtain ⟨a', c', rfl, s', _, _⟩ := h'.fs
  exact eqContext a a' _ c c' _ _ _ w hl s.rseg s'.rseg

theorem grownR {w w' : World} {B g : Nat} (hb : Below B w w') (hs : w.heap.size ≤ w'.heap.size) (h : ∀ b, b < w.heap.size → b ≠ g → w'.heap[b]? = w.heap[b]?) : w.grownBy w' (some g) :=
  ⟨hb.os, hb.tape, hb.output, hs, fun k hk hne => h k hk (fun e => hne (by rw [e]))⟩

theorem markFR {w : World} {B : Nat} {v : Value} {l : List Rn} (h : FR w B v l) (hB : B ≤ w.heap.size) (hl : l.length ≤ 1000) (k0 : Nat) (hk0 : k0 ≤ 1000000000000) :
    Calls Try.prog 11 #[.agg #[v], .int .i64 (k0 : Int)] w fun e w' => e = .returned (.int .i64 ((k0 + 3 * l.length : Nat) : Int)) ∧ w.grownBy w' v.ownBlock ∧ ∃ a c, v = .slice a l.length c ∧ RSeg w' a l.length (mk3 k0 0) (mk3 k0 1) (mk3 k0 2) := by
  rcases h.2 with ⟨e, e0⟩ | ⟨g, cap, cur, e, _⟩
  · subst e
    have e0' : l.length = 0 := e0
    refine (markContext0 none 0 k0 w hk0).mono ?_
    rintro e w1 ⟨rfl, b⟩
    exact ⟨by rw [e0']; simp, ⟨b.os, b.tape, b.output, b.size, fun k hk _ => b.block k hk⟩, none, 0, by rw [e0'], .inl e0'⟩
  · subst e
    refine (markContext B g l.length cap k0 (fCells l) w hB hk0 (by omega) h).mono ?_
    rintro e w1 ⟨rfl, b, s, z, o⟩
    exact ⟨rfl, grownR b z o, _, cap, rfl, s⟩

theorem FR.gr {w w' : World} {B : Nat} {v : Value} {l : List Rn} {row : Option Nat} (h : FR w B v l) (hg : w.grownBy w' row) (hne : ∀ g, v.ownBlock = Option.some g → Option.some g ≠ row) : FR w' B v l :=
  World.ownsRow.kept h hg (by
    cases e : v.ownBlock with
    | none => exact .inl rfl
    | some g => exact .inr (hne g e))
theorem FR.below {w w' : World} {B : Nat} {v : Value} {l : List Rn} (h : FR w B v l) (hb : Below w.heap.size w w') : FR w' B v l :=
  h.gr (row := none) ⟨hb.os, hb.tape, hb.output, hb.size, fun k hk _ => hb.block k hk⟩ (by simp)
end Go.Proofs.Ytmhhmkgfhhnakac
