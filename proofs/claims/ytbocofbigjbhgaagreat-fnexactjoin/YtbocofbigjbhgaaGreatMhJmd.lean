import Derived.Test.YtbocofbigjbhgaaGreatMg38
set_option linter.unusedVariables false
set_option linter.unusedSimpArgs false

namespace Go.Proofs.YtbocofbigjbhgaaGreat
open Go.ChangeShapes Go.WideShapes Go.ChangeAt Go.RowKit Go.Maps
theorem gL_far {l : List Lf} {i : Nat} (h : ¬ i < l.length) : (gL l i).p = [] := by simp [gL, List.getD, h]
theorem jnZ_sm (S S' : Sx) : (jnZ S S').Sm := by
  cases hb : jnB S S' with
  | false => rw [jnZ_f hb]; exact ⟨by simp [Sx.mt], fun i => by simp [Sx.mt, gL], by simp [Sx.mt]⟩
  | true =>
    rw [jnZ_t hb]
    have h1 := hb
    unfold jnB at h1
    simp only [Bool.and_eq_true] at h1
    obtain ⟨⟨h1, h2⟩, h3⟩ := h1
    unfold jnF at h3
    simp only [Bool.and_eq_true, decide_eq_true_eq] at h3
    refine ⟨by omega, fun i => ?_, by omega⟩
    by_cases hi : i < (jnS S S').l.length
    · have := (jn_bd (stB_t h1) (stB_t h2) _ (gL_mem.2 ⟨i, hi, rfl⟩)).2.2.2
      omega
    · rw [gL_far hi]; simp
theorem SNw.btw {w w' : World} {lo hi g k l1 h1 : Nat} {S : Sx} (h : SNw w lo hi g k S) (hb : Btw l1 h1 w w') (hd : h1 ≤ lo) : LMk w' lo hi g S.l ∧ ∃ ys, w'.ownsRow lo 76 3 (.slice (some ⟨k, 0, none⟩) S.n S.n) S.n ys := by
  refine ⟨h.lm.same fun q q1 q2 => hb.block q (Nat.lt_of_lt_of_le q2 h.hl) (.inr (by omega)), ?_⟩
  obtain ⟨ys, ho⟩ := h.ro
  exact ⟨ys, own_at5 ho fun q hq => hb.block q (ho.lt q hq).2 (.inr (by have := (ho.lt q hq).1; omega))⟩
theorem SOw.nj {w : World} {lo : Nat} {a x : Option Addr} {d : Nat} {S : Sx} (h : SOw w lo w.heap.size a x d S) : SNj w lo a x S := fun w' h1 h2 => (h.same h1 h2).at
theorem Btw.lowJ {lo hi B : Nat} {w0 w w' : World} (h : Btw lo hi w w') (hb : Below B w0 w) (hB : B ≤ lo) (hs : B ≤ w.heap.size) : Below B w0 w' := ⟨h.os.trans hb.os, h.tape.trans hb.tape, h.output.trans hb.output, Nat.le_trans hb.size h.size, fun k hk => (h.block k (by omega) (.inl (by omega))).trans (hb.block k hk)⟩
theorem SNj.low {w w' : World} {a x : Option Addr} {S : Sx} {lo : Nat} (h : SNj w lo a x S) (hb : Below w.heap.size w w') : SAt w' a x S := h w' hb.size (fun q _ h2 => hb.block q h2)
theorem SNj.box {v W6 : World} {lo U A : Nat} {a x : Option Addr} {S : Sx} (h : SNj v lo a x S) (hl : U ≤ lo) (hs : v.heap.size ≤ W6.heap.size) (hA : A < lo ∨ v.heap.size ≤ A) (hq : ∀ q, q ≠ A → q < v.heap.size → W6.heap[q]? = v.heap[q]?) : SNj W6 U a x S :=
  h.move hl hs (fun q h1 h2 => hq q (by omega) h2)
theorem Bx2.btw {w w' : World} {b lo hi : Nat} {v0 v1 : Value} (h : Bx2 w b v0 v1) (hb : Btw lo hi w w') (hd : b < lo ∨ hi ≤ b) : Bx2 w' b v0 v1 := by
  have e := hb.block b h.lt hd
  exact ⟨(World.cell?_of_block (a := ⟨b, 0, none⟩) e).trans h.c0, (World.cell?_of_block (a := ⟨b, 1, none⟩) e).trans h.c1, fun i => (World.frozen?_of_block (a := ⟨b, i, none⟩) e).trans (h.f i), Nat.lt_of_lt_of_le h.lt hb.size⟩
end Go.Proofs.YtbocofbigjbhgaaGreat

