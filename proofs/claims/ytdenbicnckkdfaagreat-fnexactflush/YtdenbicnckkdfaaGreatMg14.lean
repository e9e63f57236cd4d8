import Derived.Test.YtdenbicnckkdfaaGreatMg13
import Derived.Laws.StructEq
namespace Go.Proofs.YtdenbicnckkdfaaGreat
open Go.ChangeShapes Go.WideShapes Go.ChangeAt Go.RowKit
set_option linter.unusedVariables false
set_option linter.unusedSimpArgs false

def emB (v : ByteArray) : Bool := v.toList.isEmpty

def LfOk1 (x : Lf) : Prop := PthOk x.p ∧ x.v.size ≤ 200 ∧ (x.fl = true → emB x.v = true)

set_option maxRecDepth 100000 in
set_option maxHeartbeats 1000000 in
theorem leafOk (a : Option Addr) (c : Nat) (p : List ByteArray) (fl : Bool) (r q : Int) (v : ByteArray) (w : World) (hn : p.length ≤ 1048576) (h : SSeg w a p) :
    Calls Tryz.prog 122 #[.agg #[.slice a p.length c, .bool fl, .int .i64 r, .int .i64 q, .string v]] w fun e w' => e = .returned (.bool (yes (LfOk1 ⟨p, fl, r, q, v⟩))) ∧ Below w.heap.size w w' := by
  obtain ⟨W, hW⟩ : ∃ W, w.alloc (.cells #[.slice a p.length c, .bool fl, .int .i64 r, .int .i64 q, .string v] 69) = W := ⟨_, rfl⟩
  have b0 : Below w.heap.size w W := by rw [← hW]; exact (Below.refl _ _).alloc (Nat.le_refl _) _
  have k0 : W.cell? ⟨w.heap.size, 0, none⟩ = some (.slice a p.length c) := by rw [← hW]; simp
  have k1 : W.cell? ⟨w.heap.size, 1, none⟩ = some (.bool fl) := by rw [← hW]; simp
  have k4 : W.cell? ⟨w.heap.size, 4, none⟩ = some (.string v) := by rw [← hW]; simp
  have HS := hid (pathImpl p a c W hn (h.below b0))
  have HB0 := hid b0
  obtain ⟨B, hB⟩ : ∃ B, yes (LfOk1 ⟨p, fl, r, q, v⟩) = B := ⟨_, rfl⟩
  have HE := hid hB
  rw [hB]
  clear b0 h hB
  by_cases hbad : fl = true ∧ emB v = false
  · have e0 : v.toList.isEmpty = false := hbad.2
    have HG : Hid (B = false) := hid (by rw [← HE.out]; exact yes_f (fun h => by have := h.2.2 hbad.1; simp only at this; rw [hbad.2] at this; cases this))
    obtain ⟨rfl, _⟩ := hbad
    go_enter Tryz.func122, Tryz.ntmps122
    go_wp2_with fail
    try rw [hW]
    clear hW
    go_wp2_with fail
    go_ret
    exact ⟨ret_b HG.out.symm, HB0.out⟩
  · have HG : Hid (B = (yes (PthOk p) && decide (v.size ≤ 200))) := hid (by
      rw [← HE.out]
      have hi : fl = true → emB v = true := fun e => by
        by_cases h : emB v = true
        · exact h
        · exact absurd ⟨e, by simpa using h⟩ hbad
      by_cases h1 : PthOk p
      · by_cases h2 : v.size ≤ 200
        · rw [yes_t ⟨h1, h2, hi⟩, yes_t h1, decide_eq_true h2]; rfl
        · rw [yes_f (fun h => h2 h.2.1), yes_t h1, decide_eq_false h2]; rfl
      · rw [yes_f (fun h => h1 h.1), yes_f h1]; rfl)
    obtain ⟨Y, hY⟩ : ∃ Y, yes (PthOk p) = Y := ⟨_, rfl⟩
    rw [hY] at HG HS
    clear hY HE
    have hsz : decide ((v.size : Int) ≤ 200) = decide (v.size ≤ 200) := decide_eq_decide.2 (by omega)
    obtain ⟨Z, hZ⟩ : ∃ Z, decide (v.size ≤ 200) = Z := ⟨_, rfl⟩
    rw [hZ] at HG hsz
    clear hZ
    have fin : ∀ (Y Z : Bool), B = (Y && Z) → Y = false → B = false := fun Y Z h h1 => by rw [h, h1]; rfl
    have HF := hid fin
    clear fin
    cases fl with
    | false =>
      clear hbad
      go_enter Tryz.func122, Tryz.ntmps122
      go_wp2_with fail
      try rw [hW]
      clear hW
      go_wp2_with fail
      refine HS.out.mono ?_
      rintro e w1 ⟨rfl, rfl⟩
      cases Y with
      | true =>
        go_wp2_with fail
        go_ret
        exact ⟨ret_b (by rw [HG.out]; simp [hsz]), HB0.out⟩
      | false =>
        go_wp2_with fail
        go_ret
        exact ⟨ret_b (by rw [HG.out]; rfl), HB0.out⟩
    | true =>
      have e0 : v.toList.isEmpty = true := by
        by_cases h : emB v = true
        · exact h
        · exact absurd ⟨rfl, by simpa using h⟩ hbad
      clear hbad
      go_enter Tryz.func122, Tryz.ntmps122
      go_wp2_with fail
      try rw [hW]
      clear hW
      go_wp2_with fail
      refine HS.out.mono ?_
      rintro e w1 ⟨rfl, rfl⟩
      cases Y with
      | true =>
        go_wp2_with fail
        go_ret
        exact ⟨ret_b (by rw [HG.out]; simp [hsz]), HB0.out⟩
      | false =>
        go_wp2_with fail
        go_ret
        exact ⟨ret_b (by rw [HG.out]; rfl), HB0.out⟩
end Go.Proofs.YtdenbicnckkdfaaGreat

namespace Go.Proofs.YtdenbicnckkdfaaGreat
open Go.ChangeShapes Go.WideShapes Go.ChangeAt Go.RowKit
set_option linter.unusedVariables false
set_option linter.unusedSimpArgs false

set_option maxRecDepth 100000 in
theorem dotF : Tryz.prog.fieldsOf 67 = match Tryz.prog.underlying 67 with | some (.struct fs) => fs | _ => #[] := rfl
theorem dotStood : Tryz.prog.stoodInHeld 67 = false := by kernel_rfl
theorem dotGuard : Tryz.prog.eqGuardType Tryz.prog.depth 67 = false := by kernel_rfl
set_option maxRecDepth 100000 in
theorem eqlDot (r q r' q' : Int) (w : World) : (binOp .eql 67 (.agg #[.int .i64 r, .int .i64 q]) (.agg #[.int .i64 r', .int .i64 q'])).run Tryz.prog w = .ok (.bool (r == r' && q == q')) w := by
  rw [run_eql_struct, show (10000 : Nat) = 9999 + 1 from rfl, run_equalIn_agg _ _ _ _ _ (by kernel_rfl) dotStood, dotF, Tryz.underlying67]
  cases h1 : (r == r') <;> simp [Op.eqFields, go_sem, Tryz.underlying3, h1]
  by_cases h2 : q = q' <;> simp [h2]
end Go.Proofs.YtdenbicnckkdfaaGreat
