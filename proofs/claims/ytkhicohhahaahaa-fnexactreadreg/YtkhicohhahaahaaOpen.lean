import Derived.Test.YtkhicohhahaahaaRun
import Derived.Deep.Slices
import Derived.Deep.SlicePairs
import Derived.Deep.Strs
import Derived.Lib.SmallJoins
namespace Go.Proofs.Ytkhicohhahaahaa
open Go.ChangeShapes Go.WideShapes Go.ChangeAt Go.RowKit Go.Deep
set_option linter.unusedVariables false
set_option linter.unusedSimpArgs false

theorem array1 {α : Type} {cs : Array α} (h : cs.size = 1) : ∃ c0, cs = #[c0] := by
  obtain ⟨l⟩ := cs
  match l, h with
  | [c0], _ => exact ⟨c0, rfl⟩

theorem list3 {α : Type} {l : List α} (h : l.length = 3) : ∃ x y z, l = [x, y, z] := by
  match l, h with
  | [x, y, z], _ => exact ⟨x, y, z, rfl⟩

set_option maxRecDepth 100000 in
theorem openCtx {H : Type} {enc : TypeId × Value → H} {W : World} {r : Reach} {b0 base : Nat} {spare : Nat → Bool} {held : Bool} {v : Value} {d : DataW H} {p : List MemPlace}
    (hval : Value.okWide Try.prog W r b0 25 v) (h : DataW.Trod enc Try.prog W base spare held 25 v d p) :
    ∃ a n c R F T, v = .agg #[.slice a n c] ∧ n ≤ 9223372036854775807 ∧ RSeg W a n R F T ∧ I64 R ∧ I64 F ∧ I64 T := by
  obtain ⟨cs, rfl, hsz⟩ := okWide_struct Try.underlying25 hval
  obtain ⟨v0, rfl⟩ := array1 (hsz.trans (show Try.prog.cellsOf 25 = 1 by kernel_rfl))
  obtain ⟨fuel, hf⟩ := h
  obtain ⟨y0, n, _, _, h0⟩ := trod_struct1 Try.underlying25 hf
  have e1 : Try.prog.cellsOf 23 = 1 := by kernel_rfl
  have e3 : Try.prog.cellsOf 105 = 3 := by kernel_rfl
  have ei : Try.prog.cellsOf 3 = 1 := by kernel_rfl
  simp [Value.cells, e1] at h0
  rcases open_slice Try.underlying23 h0 with ⟨hcs, _⟩ | ⟨a, len, cap, m, k, D, Pl, hcs, hb, hl, hm, hmm, _, hx⟩
  · simp at hcs
    subst hcs
    exact ⟨none, 0, 0, fun _ => 0, fun _ => 0, fun _ => 0, rfl, by omega, .inl rfl, fun _ => by simp, fun _ => by simp, fun _ => by simp⟩
  · simp at hcs
    subst hcs
    have hlm : len ≤ m := by rw [hmm]; split <;> omega
    have each : ∀ i, i < m → ∃ q : Int × Int × Int, W.cell? (a.add (i * 3)) = some (.int .i64 q.1) ∧ W.cell? (a.add (i * 3 + 1)) = some (.int .i64 q.2.1) ∧ W.cell? (a.add (i * 3 + 2)) = some (.int .i64 q.2.2) ∧
        (-9223372036854775808 ≤ q.1 ∧ q.1 ≤ 9223372036854775807) ∧ (-9223372036854775808 ≤ q.2.1 ∧ q.2.1 ≤ 9223372036854775807) ∧ (-9223372036854775808 ≤ q.2.2 ∧ q.2.2 ≤ 9223372036854775807) := by
      intro i hi
      obtain ⟨cs', h1, h2⟩ := hx i hi
      rw [e3] at h1
      obtain ⟨_, hlen, hcell⟩ := World.cells?_some h1
      obtain ⟨x0, x1, x2, rfl⟩ := list3 hlen
      obtain ⟨y0, y1, y2, k', _, _, g0, g1, g2⟩ := trod_struct3 Try.underlying105 h2
      simp [ei] at g0 g1 g2
      obtain ⟨z0, q0, _, wf0⟩ := DataW.trod_int Try.underlying3 g0
      obtain ⟨z1, q1, _, wf1⟩ := DataW.trod_int Try.underlying3 g1
      obtain ⟨z2, q2, _, wf2⟩ := DataW.trod_int Try.underlying3 g2
      simp at q0 q1 q2
      subst q0 q1 q2
      have c0 := hcell 0 (by omega)
      have c1 := hcell 1 (by omega)
      have c2 := hcell 2 (by omega)
      rw [add_add] at c0 c1 c2
      exact ⟨(z0, z1, z2), by simpa using c0, by simpa using c1, by simpa using c2, bounds_i64 wf0, bounds_i64 wf1, bounds_i64 wf2⟩
    obtain ⟨q, hq⟩ := choose_lt each
    refine ⟨some a, len, cap, fun i => if i < m then (q i).1 else 0, fun i => if i < m then (q i).2.1 else 0, fun i => if i < m then (q i).2.2 else 0, rfl, by unfold maxLen at hm; omega, ?_, ?_, ?_, ?_⟩
    · by_cases h0 : len = 0
      · exact .inl h0
      · have c0 := (hq 0 (by omega)).1
        obtain ⟨b, off, sp⟩ := a
        have hsp : sp = none := by simpa [Addr.add] using World.cell?_spot c0
        subst hsp
        have hadd : ∀ j, (⟨b, off, none⟩ : Addr).add j = ⟨b, off + j, none⟩ := by
          intro j
          by_cases hj : j = 0
          · subst hj; rfl
          · simp [Addr.add, hj]
        refine .inr ⟨b, off, rfl, block_lt_of_cell c0, fun i hi => ?_⟩
        have hi' : i < m := by omega
        obtain ⟨c0, c1, c2, _⟩ := hq i hi'
        rw [hadd] at c0 c1 c2
        simp only [hi', if_true]
        exact ⟨c0, by simpa [Nat.add_assoc] using c1, by simpa [Nat.add_assoc] using c2⟩
    · intro i; by_cases hi : i < m
      · simp only [hi, if_true]; exact (hq i hi).2.2.2.1
      · simp only [hi, if_false]; omega
    · intro i; by_cases hi : i < m
      · simp only [hi, if_true]; exact (hq i hi).2.2.2.2.1
      · simp only [hi, if_false]; omega
    · intro i; by_cases hi : i < m
      · simp only [hi, if_true]; exact (hq i hi).2.2.2.2.2
      · simp only [hi, if_false]; omega
end Go.Proofs.Ytkhicohhahaahaa
