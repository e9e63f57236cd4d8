import Derived.Test.YtkhicohhahaahaaStg
namespace Go.Proofs.Ytkhicohhahaahaa
open Go.ChangeShapes Go.WideShapes Go.ChangeAt Go.RowKit
set_option linter.unusedVariables false
set_option linter.unusedSimpArgs false

def ltS (s t : ByteArray) : Bool := Op.bytesLess s.toList t.toList
def eqS (s t : ByteArray) : Bool := s.toList == t.toList

def cmpS (s t : ByteArray) : Int := if ltS s t = true then -1 else if eqS s t = true then 0 else 1
def cmpP : List ByteArray → List ByteArray → Int
  | [], [] => 0
  | [], _ :: _ => -1
  | _ :: _, [] => 1
  | s :: p, t :: q => if cmpS s t = 0 then cmpP p q else cmpS s t
theorem SSeg.tail {w : World} {b o : Nat} {s : ByteArray} {p : List ByteArray} (hb : b < w.heap.size) (h : ∀ i, i < (s :: p).length → w.cell? ⟨b, o + i, none⟩ = some (.string (gS (s :: p) i))) : SSeg w (some ⟨b, o + 1, none⟩) p :=
  .inr ⟨b, o + 1, rfl, hb, fun i hi => by
    have e := h (i + 1) (by simp; omega)
    rw [show o + (i + 1) = o + 1 + i by omega] at e
    exact e⟩
theorem SSeg.drews {w : World} {a : Option Addr} {p : List ByteArray} (h : SSeg w a p) {k : Nat} : SSeg (w.drewN k) a p := h
theorem ret_i {x y : Int} (h : x = y) : Ending.returned (.int .i64 x) = .returned (.int .i64 y) := by rw [h]

set_option maxRecDepth 100000 in
set_option maxHeartbeats 1000000 in
theorem cmpSpec : ∀ (p q : List ByteArray) (a b : Option Addr) (c d : Nat) (w : World), p.length ≤ c → q.length ≤ d → c ≤ 9223372036854775807 → d ≤ 9223372036854775807 → SSeg w a p → SSeg w b q →
    Calls Try.prog 19 #[.slice a p.length c, .slice b q.length d] w fun e w' => e = .returned (.int .i64 (cmpP p q)) ∧ ∃ k, w' = w.drewN k
  | [], [], a, b, c, d, w, _, _, _, _, _, _ => by
    go_enter Try.func19, Try.ntmps19
    go_wp2_with fail
    go_ret
    exact ⟨rfl, 0, rfl⟩
  | [], t :: q, a, b, c, d, w, _, _, _, _, _, _ => by
    have d0 : (((t :: q).length : Int) == 0) = false := by simp; omega
    go_enter Try.func19, Try.ntmps19
    go_wp2_with fail
    go_ret
    exact ⟨rfl, 0, rfl⟩
  | s :: p, [], a, b, c, d, w, _, _, _, _, _, _ => by
    have d0 : (((s :: p).length : Int) == 0) = false := by simp; omega
    go_enter Try.func19, Try.ntmps19
    go_wp2_with fail
    go_ret
    exact ⟨rfl, 0, rfl⟩
  | s :: p, t :: q, a, b, c, d, w, hc, hd, hc', hd', h, h' => by
    obtain ⟨n, hn⟩ : ∃ n, (s :: p).length = n := ⟨_, rfl⟩
    obtain ⟨m, hm⟩ : ∃ m, (t :: q).length = m := ⟨_, rfl⟩
    rcases h with h | ⟨b1, o1, rfl, hb1, h⟩
    · simp at h
    rcases h' with h' | ⟨b2, o2, rfl, hb2, h'⟩
    · simp at h'
    have x0 : w.cell? ⟨b1, o1, none⟩ = some (.string s) := by simpa [gS] using h 0 (by simp)
    have y0 : w.cell? ⟨b2, o2, none⟩ = some (.string t) := by simpa [gS] using h' 0 (by simp)
    have n1 : n = p.length + 1 := by rw [← hn]; simp
    have m1 : m = q.length + 1 := by rw [← hm]; simp
    have HT1 := hid (SSeg.tail hb1 h)
    have HT2 := hid (SSeg.tail hb2 h')
    have d0 : ((n : Int) == 0) = false := by simp; omega
    have d1 : ((m : Int) == 0) = false := by simp; omega
    have HN := hid n1
    have HM := hid m1
    have hn0 : (0 : Int) < (n : Int) := by omega
    have hm0 : (0 : Int) < (m : Int) := by omega
    have hcn : n ≤ c := by rw [← hn]; exact hc
    have hdm : m ≤ d := by rw [← hm]; exact hd
    rw [hn, hm]
    clear n1 m1 hn hm hc hd h h'
    by_cases hl : Op.bytesLess s.toList t.toList = true
    · have HC : Hid (cmpP (s :: p) (t :: q) = -1) := hid (by simp [cmpP, cmpS, ltS, hl])
      clear HT1 HT2
      go_enter Try.func19, Try.ntmps19
      go_wp2_with fail
      go_quiet (fail)
      go_wp2_with fail
      go_ret
      exact ⟨ret_i HC.out.symm, _, rfl⟩
    · have hl : Op.bytesLess s.toList t.toList = false := by simpa using hl
      by_cases he : (s.toList == t.toList) = true
      · have HC : Hid (cmpP (s :: p) (t :: q) = cmpP p q) := hid (by simp only [cmpP, cmpS, ltS, eqS, hl, he]; simp)
        have HR : Hid (∀ A B W, SSeg W A p → SSeg W B q → Calls Try.prog 19 #[.slice A (n - 1) (c - 1), .slice B (m - 1) (d - 1)] W fun e w' => e = .returned (.int .i64 (cmpP p q)) ∧ ∃ m, w' = W.drewN m) := hid (fun A B W hA hB => by
          have e1 := HN.out
          have e2 := HM.out
          rw [show n - 1 = p.length by omega, show m - 1 = q.length by omega]
          exact cmpSpec p q A B (c - 1) (d - 1) _ (by omega) (by omega) (by omega) (by omega) hA hB)
        have hn1 : (1 : Int) ≤ (n : Int) := by omega
        have hm1 : (1 : Int) ≤ (m : Int) := by omega
        go_enter Try.func19, Try.ntmps19
        go_wp2_with fail
        go_quiet (fail)
        obtain ⟨W1, hW1⟩ : ∃ W1, w.drewN nq = W1 := ⟨_, rfl⟩
        rw [hW1]
        have x1 : W1.cell? ⟨b1, o1, none⟩ = some (.string s) := by rw [← hW1]; exact x0
        have y1 : W1.cell? ⟨b2, o2, none⟩ = some (.string t) := by rw [← hW1]; exact y0
        have HW1 := hid hW1
        clear hW1
        go_wp2_with fail
        go_quiet (fail)
        obtain ⟨W2, hW2⟩ : ∃ W2, W1.drewN nq = W2 := ⟨_, rfl⟩
        rw [hW2]
        have HW : Hid (∃ k, W2 = w.drewN k) := hid ⟨_, by rw [← hW2, ← HW1.out, World.drewN_drewN]⟩
        clear hW2 HW1 x1 y1
        go_wp2_with fail
        by_cases hc1 : 1 < c
        · skip
          by_cases hd1 : 1 < d
          · skip
            have HA : Hid (SSeg W2 (some ⟨b1, o1 + 1, none⟩) p) := hid (by obtain ⟨k, e⟩ := HW.out; rw [e]; exact HT1.out)
            have HB : Hid (SSeg W2 (some ⟨b2, o2 + 1, none⟩) q) := hid (by obtain ⟨k, e⟩ := HW.out; rw [e]; exact HT2.out)
            go_quiet ((go_at_call 19; exact Calls.quiet_of (HR.out _ _ _ HA.out.drews HB.out.drews)))
            clear HA HB HR
            go_wp2_with fail
            go_ret
            obtain ⟨k, e⟩ := HW.out
            exact ⟨ret_i HC.out.symm, _, by rw [e, World.drewN_drewN]⟩
          · skip
            have HA : Hid (SSeg W2 (some ⟨b1, o1 + 1, none⟩) p) := hid (by obtain ⟨k, e⟩ := HW.out; rw [e]; exact HT1.out)
            have HB := hid (show SSeg W2 (some ⟨b2, o2, none⟩) q from .inl (by have := HM.out; omega))
            go_quiet ((go_at_call 19; exact Calls.quiet_of (HR.out _ _ _ HA.out.drews HB.out.drews)))
            clear HA HB HR
            go_wp2_with fail
            go_ret
            obtain ⟨k, e⟩ := HW.out
            exact ⟨ret_i HC.out.symm, _, by rw [e, World.drewN_drewN]⟩
        · skip
          by_cases hd1 : 1 < d
          · skip
            have HA := hid (show SSeg W2 (some ⟨b1, o1, none⟩) p from .inl (by have := HN.out; omega))
            have HB : Hid (SSeg W2 (some ⟨b2, o2 + 1, none⟩) q) := hid (by obtain ⟨k, e⟩ := HW.out; rw [e]; exact HT2.out)
            go_quiet ((go_at_call 19; exact Calls.quiet_of (HR.out _ _ _ HA.out.drews HB.out.drews)))
            clear HA HB HR
            go_wp2_with fail
            go_ret
            obtain ⟨k, e⟩ := HW.out
            exact ⟨ret_i HC.out.symm, _, by rw [e, World.drewN_drewN]⟩
          · skip
            have HA := hid (show SSeg W2 (some ⟨b1, o1, none⟩) p from .inl (by have := HN.out; omega))
            have HB := hid (show SSeg W2 (some ⟨b2, o2, none⟩) q from .inl (by have := HM.out; omega))
            go_quiet ((go_at_call 19; exact Calls.quiet_of (HR.out _ _ _ HA.out.drews HB.out.drews)))
            clear HA HB HR
            go_wp2_with fail
            go_ret
            obtain ⟨k, e⟩ := HW.out
            exact ⟨ret_i HC.out.symm, _, by rw [e, World.drewN_drewN]⟩
      · have he : (s.toList == t.toList) = false := by simpa using he
        have HC : Hid (cmpP (s :: p) (t :: q) = 1) := hid (by simp [cmpP, cmpS, ltS, eqS, hl, he])
        clear HT1 HT2
        go_enter Try.func19, Try.ntmps19
        go_wp2_with fail
        go_quiet (fail)
        go_wp2_with fail
        go_quiet (fail)
        go_wp2_with fail
        go_ret
        exact ⟨ret_i HC.out.symm, _, World.drewN_drewN _ _ _⟩
end Go.Proofs.Ytkhicohhahaahaa
