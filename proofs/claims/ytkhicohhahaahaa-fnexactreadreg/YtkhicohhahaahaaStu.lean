import Derived.Test.YtkhicohhahaahaaStt
import Derived.Maps.Own
import Derived.Maps.OwnSet
import Derived.Maps.OwnOps
import Derived.Maps.Views
import Derived.DeepKeys4
namespace Go.Proofs.Ytkhicohhahaahaa
open Go.ChangeShapes Go.WideShapes Go.ChangeAt Go.RowKit Go.Maps
set_option linter.unusedVariables false
set_option linter.unusedSimpArgs false

theorem laidOutS : laidOutB Try.prog = true := by kernel_rfl
theorem dotKeyed : Keyed Try.prog 50 := Keyed.of_law (deep_law_laid laidOutS (m := 3) (by omega) (of_decide_eq_true (by kernel_rfl)) (by kernel_rfl) (by kernel_rfl))
def dotV (r q : Int) : Value := .agg #[.int .i64 r, .int .i64 q]
theorem dotKT : Try.prog.keyType 50 = true := by kernel_rfl
theorem dotKey {r q : Int} (hr : (Lit.int .i64 r).wf = true) (hq : (Lit.int .i64 q).wf = true) : ∃ kl, keyOf Try.prog 50 (dotV r q) = some kl := by
  unfold keyOf
  rw [Try.underlying50]
  simp only [dotKT, Bool.true_and]
  have h0 : 0 < Try.prog.types.size := of_decide_eq_true (by kernel_rfl)
  obtain ⟨m, hm⟩ : ∃ m, Try.prog.types.size = m + 1 := ⟨Try.prog.types.size - 1, by omega⟩
  rw [hm]
  have e2 : Try.prog.cellsOf 50 = 2 := by kernel_rfl
  have ei : Try.prog.cellsOf 3 = 1 := by kernel_rfl
  simp [Value.formed, dotV, Try.underlying50, e2, Program.keyLits, Try.underlying3, ei, Value.cells, hr, hq]
theorem dotKey_inj {r q r' q' : Int} {kl : Lit} (h : keyOf Try.prog 50 (dotV r q) = some kl) (h' : keyOf Try.prog 50 (dotV r' q') = some kl) : r = r' ∧ q = q' := by
  have e := dotKeyed.inj h h'
  simpa [dotV] using e

structure DotM (w : World) (bm k : Nat) (l : List Lf) (D : DataW Value) : Prop where
  own : w.ownsMap Try.prog 50 (plainElem Try.prog 3) bm k D
  tidy : Tidy D
  has' : ∀ r q kl, keyOf Try.prog 50 (dotV r q) = some kl → (has D kl = true ↔ ∃ j, j < k ∧ (gL l j).r = r ∧ (gL l j).q = q)
  le : size D ≤ k
  eq : size D = k ↔ ∀ i, i < k → ∀ j, j < i → ¬ ((gL l j).r = (gL l i).r ∧ (gL l j).q = (gL l i).q)
theorem DotM.step {w w' : World} {bm k : Nat} {l : List Lf} {D : DataW Value} {kl : Lit} {d : DataW Value} (h : DotM w bm k l D) (hk : keyOf Try.prog 50 (dotV (gL l k).r (gL l k).q) = some kl)
    (ho : w'.ownsMap Try.prog 50 (plainElem Try.prog 3) bm (k + 1) (D.put kl d)) : DotM w' bm (k + 1) l (D.put kl d) := by
  have hlit := dotKeyed.key hk
  have hsz := size_put (k := kl) h.tidy d
  have hh := h.has' _ _ _ hk
  refine ⟨ho, h.tidy.put hlit d, fun r q kl' hk' => ?_, ?_, ?_⟩
  · by_cases e : kl' = kl
    · subst e
      obtain ⟨e1, e2⟩ := dotKey_inj hk hk'
      rw [has_put_same h.tidy.isMap hlit]
      exact ⟨fun _ => ⟨k, by omega, e1, e2⟩, fun _ => rfl⟩
    · rw [has_put_other e, h.has' r q kl' hk']
      constructor
      · rintro ⟨j, hj, r1⟩; exact ⟨j, by omega, r1⟩
      · rintro ⟨j, hj, r1, r2⟩
        by_cases ej : j = k
        · subst ej; rw [r1, r2, hk'] at hk; injection hk with hk; exact absurd hk e
        · exact ⟨j, by omega, r1, r2⟩
  · rw [hsz]; have := h.le; split <;> omega
  · rw [hsz]
    have hle := h.le
    by_cases hb : has D kl = true
    · rw [if_pos hb]
      obtain ⟨j, hj, r1, r2⟩ := hh.1 hb
      constructor
      · intro e; omega
      · intro e; exact absurd ⟨r1, r2⟩ (e k (by omega) j hj)
    · rw [if_neg hb]
      have hn := fun j hj r1 r2 => hb (hh.2 ⟨j, hj, r1, r2⟩)
      constructor
      · intro e i hi j hj
        by_cases ei : i = k
        · subst ei; exact fun q => hn j hj q.1 q.2
        · exact h.eq.1 (by omega) i (by omega) j hj
      · intro e
        have := h.eq.2 (fun i hi j hj => e i (by omega) j hj)
        omega
theorem DotM.made (w : World) (l : List Lf) : DotM (w.alloc (.map #[] 0)) w.heap.size 0 l (.map []) :=
  ⟨World.ownsMap_made w _ _ _, tidy_empty, fun r q kl hk => ⟨fun h => by simp [has] at h, fun ⟨j, hj, _⟩ => by omega⟩, by simp [size], ⟨fun _ i hi => by omega, fun _ => rfl⟩⟩
end Go.Proofs.Ytkhicohhahaahaa
