import Derived.Test.YtkhicohhahaahaaSth
namespace Go.Proofs.Ytkhicohhahaahaa
open Go.ChangeShapes Go.WideShapes Go.ChangeAt Go.RowKit
set_option linter.unusedVariables false
set_option linter.unusedSimpArgs false

def PthOk (p : List ByteArray) : Prop := 1 ≤ p.length ∧ p.length ≤ 8 ∧ ∀ i, i < p.length → 1 ≤ (gS p i).size ∧ (gS p i).size ≤ 40
noncomputable def yes (P : Prop) : Bool := @decide P (Classical.propDecidable P)
theorem yes_t {P : Prop} (h : P) : yes P = true := by unfold yes; exact @decide_eq_true _ (Classical.propDecidable P) h
theorem yes_f {P : Prop} (h : ¬ P) : yes P = false := by unfold yes; exact @decide_eq_false _ (Classical.propDecidable P) h
theorem yes_iff {P : Prop} : yes P = true ↔ P := ⟨fun h => by unfold yes at h; exact @of_decide_eq_true _ (Classical.propDecidable P) h, yes_t⟩
theorem ret_b {x y : Bool} (h : x = y) : Ending.returned (.bool x) = .returned (.bool y) := by rw [h]

set_option maxRecDepth 100000 in
set_option maxHeartbeats 1000000 in
theorem pathSpec (p : List ByteArray) (a : Option Addr) (c : Nat) (w : World) (hp : p.length ≤ 1048576) (h : SSeg w a p) :
    Calls Try.prog 18 #[.slice a p.length c] w fun e w' => e = .returned (.bool (yes (PthOk p))) ∧ w' = w := by
  go_enter Try.func18, Try.ntmps18
  go_wp2_with fail
  go_loop [3] (fun i => ∃ k : Nat, k ≤ p.length ∧ i = .int .i64 (k : Int) ∧ Hid (∀ j, j < k → 1 ≤ (gS p j).size ∧ (gS p j).size ≤ 40)) (fun i => p.length - (intOf i).toNat)
  case atStart => exact ⟨0, Nat.zero_le _, rfl, hid (fun j hj => by omega)⟩
  case round =>
    obtain ⟨k, hk, rfl, HE⟩ := hrel
    by_cases hlt : k < p.length
    · rcases h with h | ⟨b1, o1, rfl, hb1, hc1⟩
      · omega
      have x0 := hc1 k hlt
      have i1 : (0 : Int) ≤ (k : Int) := Int.natCast_nonneg _
      have i2 : (k : Int) < (p.length : Int) := by omega
      obtain ⟨s, hs⟩ : ∃ s, gS p k = s := ⟨_, rfl⟩
      rw [hs] at x0
      have HS := hid hs
      clear hc1 hs
      by_cases h1 : (s.size : Int) < 1
      · have d1 : decide ((s.size : Int) < 1) = true := by simpa using h1
        have HG : Hid (yes (PthOk p) = false) := hid (yes_f (fun h => by have := (h.2.2 k hlt).1; rw [HS.out] at this; omega))
        go_wp2_with fail
        go_ret
        exact ⟨ret_b HG.out.symm, rfl⟩
      · have d1 : decide ((s.size : Int) < 1) = false := by simpa using h1
        by_cases h2 : (40 : Int) < (s.size : Int)
        · have d2 : decide ((40 : Int) < (s.size : Int)) = true := by simpa using h2
          have HG : Hid (yes (PthOk p) = false) := hid (yes_f (fun h => by have := (h.2.2 k hlt).2; rw [HS.out] at this; omega))
          go_wp2_with fail
          go_ret
          exact ⟨ret_b HG.out.symm, rfl⟩
        · have d2 : decide ((40 : Int) < (s.size : Int)) = false := by simpa using h2
          have HG : Hid (∀ j, j < k + 1 → 1 ≤ (gS p j).size ∧ (gS p j).size ≤ 40) := hid (fun j hj => by
            by_cases e : j = k
            · rw [e, HS.out]; omega
            · exact HE.out j (by omega))
          go_wp2_with fail
          go_round
          case rel => exact ⟨k + 1, hlt, by go_num, HG⟩
          case measure => simp [intOf]; omega
    · obtain rfl : k = p.length := by omega
      have HG : Hid (yes (PthOk p) = decide (1 ≤ p.length ∧ p.length ≤ 8)) := hid (by
        by_cases q : 1 ≤ p.length ∧ p.length ≤ 8
        · rw [yes_t ⟨q.1, q.2, HE.out⟩, decide_eq_true q]
        · rw [yes_f (fun h => q ⟨h.1, h.2.1⟩), decide_eq_false q])
      clear h HE
      by_cases h1 : (1 : Int) ≤ (p.length : Int)
      · have d1 : decide ((1 : Int) ≤ (p.length : Int)) = true := by simpa using h1
        by_cases h2 : (p.length : Int) ≤ 8
        · have d2 : decide ((p.length : Int) ≤ 8) = true := by simpa using h2
          have HG : Hid (yes (PthOk p) = true) := hid (by rw [HG.out]; exact decide_eq_true (by omega))
          go_wp2_with fail
          go_ret
          exact ⟨ret_b HG.out.symm, rfl⟩
        · have d2 : decide ((p.length : Int) ≤ 8) = false := by simpa using h2
          have HG : Hid (yes (PthOk p) = false) := hid (by rw [HG.out]; exact decide_eq_false (by omega))
          go_wp2_with fail
          go_ret
          exact ⟨ret_b HG.out.symm, rfl⟩
      · have d1 : decide ((1 : Int) ≤ (p.length : Int)) = false := by simpa using h1
        have HG : Hid (yes (PthOk p) = false) := hid (by rw [HG.out]; exact decide_eq_false (by omega))
        go_wp2_with fail
        go_ret
        exact ⟨ret_b HG.out.symm, rfl⟩

set_option maxRecDepth 100000 in
set_option maxHeartbeats 1000000 in
theorem pathImpl (p : List ByteArray) (a : Option Addr) (c : Nat) (w : World) (hp : p.length ≤ 1048576) (h : SSeg w a p) :
    Calls Try.prog 24 #[.slice a p.length c] w fun e w' => e = .returned (.bool (yes (PthOk p))) ∧ w' = w := by
  by_cases h1 : (p.length : Int) < 1
  · have d1 : decide ((p.length : Int) < 1) = true := by simpa using h1
    have HG : Hid (yes (PthOk p) = false) := hid (yes_f (fun h => by have := h.1; omega))
    clear h
    go_enter Try.func24, Try.ntmps24
    go_wp2_with fail
    go_ret
    exact ⟨ret_b HG.out.symm, rfl⟩
  · have d1 : decide ((p.length : Int) < 1) = false := by simpa using h1
    by_cases h2 : (8 : Int) < (p.length : Int)
    · have d2 : decide ((8 : Int) < (p.length : Int)) = true := by simpa using h2
      have HG : Hid (yes (PthOk p) = false) := hid (yes_f (fun h => by have := h.2.1; omega))
      clear h
      go_enter Try.func24, Try.ntmps24
      go_wp2_with fail
      go_ret
      exact ⟨ret_b HG.out.symm, rfl⟩
    · have d2 : decide ((8 : Int) < (p.length : Int)) = false := by simpa using h2
      go_enter Try.func24, Try.ntmps24
      go_wp2_with fail
      clear d1 d2
      go_loop [15] (fun i => ∃ k : Nat, k ≤ p.length ∧ i = .int .i64 (k : Int) ∧ Hid (∀ j, j < k → 1 ≤ (gS p j).size ∧ (gS p j).size ≤ 40)) (fun i => p.length - (intOf i).toNat)
      case atStart => exact ⟨0, Nat.zero_le _, rfl, hid (fun j hj => by omega)⟩
      case round =>
        obtain ⟨k, hk, rfl, HE⟩ := hrel
        by_cases hlt : k < p.length
        · rcases h with h | ⟨b1, o1, rfl, hb1, hc1⟩
          · omega
          have x0 := hc1 k hlt
          have i1 : (0 : Int) ≤ (k : Int) := Int.natCast_nonneg _
          have i2 : (k : Int) < (p.length : Int) := by omega
          obtain ⟨s, hs⟩ : ∃ s, gS p k = s := ⟨_, rfl⟩
          rw [hs] at x0
          have HS := hid hs
          clear hc1 hs
          by_cases h1 : (s.size : Int) < 1
          · have d1 : decide ((s.size : Int) < 1) = true := by simpa using h1
            have HG : Hid (yes (PthOk p) = false) := hid (yes_f (fun h => by have := (h.2.2 k hlt).1; rw [HS.out] at this; omega))
            go_wp2_with fail
            go_ret
            exact ⟨ret_b HG.out.symm, rfl⟩
          · have d1 : decide ((s.size : Int) < 1) = false := by simpa using h1
            by_cases h2 : (40 : Int) < (s.size : Int)
            · have d2 : decide ((40 : Int) < (s.size : Int)) = true := by simpa using h2
              have HG : Hid (yes (PthOk p) = false) := hid (yes_f (fun h => by have := (h.2.2 k hlt).2; rw [HS.out] at this; omega))
              go_wp2_with fail
              go_ret
              exact ⟨ret_b HG.out.symm, rfl⟩
            · have d2 : decide ((40 : Int) < (s.size : Int)) = false := by simpa using h2
              have HG : Hid (∀ j, j < k + 1 → 1 ≤ (gS p j).size ∧ (gS p j).size ≤ 40) := hid (fun j hj => by
                by_cases e : j = k
                · rw [e, HS.out]; omega
                · exact HE.out j (by omega))
              go_wp2_with fail
              go_round
              case rel => exact ⟨k + 1, hlt, by go_num, HG⟩
              case measure => simp [intOf]; omega
        · obtain rfl : k = p.length := by omega
          have HG : Hid (yes (PthOk p) = true) := hid (yes_t ⟨by omega, by omega, HE.out⟩)
          clear h HE
          go_wp2_with fail
          go_ret
          exact ⟨ret_b HG.out.symm, rfl⟩
end Go.Proofs.Ytkhicohhahaahaa
