import Derived.Test.YtbimcammjohaoabSpn
namespace Go.Proofs.Ytbimcammjohaoab
open Go.ChangeShapes Go.WideShapes Go.ChangeAt Go.RowKit Go.Maps
set_option linter.unusedVariables false
set_option linter.unusedSimpArgs false

theorem last_cell {w : World} {B g n cap : Nat} {l : List (Int × Int)} (h : w.ownsRow B 63 2 (.slice (some ⟨g, 0, none⟩) n cap) n (spanCells l)) (hl : l.length = n) (h0 : 0 < n) :
    w.cell? ⟨g, (n - 1) * 2 + 1, none⟩ = some (.int .i64 (lastTo l)) := by
  rw [h.cellAt _ (by omega)]
  obtain ⟨l', p, rfl⟩ : ∃ l' p, l = l' ++ [p] := ⟨l.dropLast, l.getLast (by intro e; rw [e] at hl; simp at hl; omega), (List.dropLast_concat_getLast _).symm⟩
  have hlen : (spanCells l').length = l'.length * 2 := by
    clear h hl
    induction l' with
    | nil => rfl
    | cons a l ih => simp [spanCells] at *; omega
  simp at hl
  rw [lastTo_snoc, spanCells_append, List.getElem?_append_right (by rw [hlen]; omega), hlen, show (n - 1) * 2 + 1 - l'.length * 2 = 1 from by omega]
  rfl

set_option maxRecDepth 100000 in
set_option maxHeartbeats 400000 in
theorem greatest {w : World} {bm n : Nat} {D : DataW Value} {G : Int → Value} {L : Int → List (Int × Int)} (h : GrpAt w bm n D G L) (r : Int) (hr : (Lit.int .i64 r).wf = true) (hl : (L r).length ≤ 1000000) :
    Calls Try.prog 37 #[.map (some bm), .int .i64 r] w fun e w' => e = .returned (.int .i64 (lastTo (L r))) ∧ w' = w := by
  have hlk := h.look r hr
  have hrow := h.rows r
  rcases hrow.2 with ⟨e, e0⟩ | ⟨g, cap, cur, e, hb, hg, hnc, hcm, hcs, htake⟩
  · have hnil : L r = [] := List.eq_nil_of_length_eq_zero e0
    have HE : Hid (lastTo (L r) = 0) := by rw [hnil]; rfl
    rw [e] at hlk
    clear hrow e e0 h hnil
    go_enter Try.func37, Try.ntmps37
    go_wp2_with fail
    go_ret
    exact ⟨ret_int HE.out.symm, rfl⟩
  · rw [e] at hlk hrow
    unfold maxLen at hcm
    by_cases h0 : (L r).length = 0
    · have hnil : L r = [] := List.eq_nil_of_length_eq_zero h0
      have HE : Hid (lastTo (L r) = 0) := by rw [hnil]; rfl
      rw [h0] at hlk
      clear hrow e h hnil hcs htake hg hb hnc hcm
      go_enter Try.func37, Try.ntmps37
      go_wp2_with fail
      go_ret
      exact ⟨ret_int HE.out.symm, rfl⟩
    · have hc := last_cell hrow rfl (by omega)
      generalize hlen : (L r).length = m at *
      have HL := hid hlen
      have e1 : ((m : Int) - 1).toNat = m - 1 := by omega
      have e2 : (1 : Int) ≤ (m : Int) := by omega
      have e3 : ((m : Int) == 0) = false := by simp; omega
      clear hrow e h hcs htake hg hb hlen h0
      go_enter Try.func37, Try.ntmps37
      go_wp2_with fail
      go_ret
      exact ⟨rfl, rfl⟩

end Go.Proofs.Ytbimcammjohaoab
