import Derived.Test.YtdenbicnckkdfaaGreatMg11
namespace Go.Proofs.YtdenbicnckkdfaaGreat
open Go.ChangeShapes Go.WideShapes Go.ChangeAt Go.RowKit
set_option linter.unusedVariables false
set_option linter.unusedSimpArgs false

theorem cmpStr (s t : ByteArray) (w : World) : Calls Tryz.prog 119 #[.string s, .string t] w fun e w' => e = .returned (.int .i64 (cmpS s t)) ∧ w' = w := by
  have nan : ∀ (s : ByteArray) (w : World), Calls Tryz.prog 132 #[.string s] w fun e w' => e = .returned (.bool false) ∧ w' = w := fun s w => by
    have e : (s.toList == s.toList) = true := by simp
    go_enter Tryz.func132, Tryz.ntmps132
    go_wp2_with fail
    go_ret
    exact ⟨rfl, rfl⟩
  by_cases hl : Op.bytesLess s.toList t.toList = true
  · have HC : Hid (cmpS s t = -1) := hid (by simp [cmpS, ltS, hl])
    go_enter Tryz.func119, Tryz.ntmps119
    go_wp2_with (go_at_call 132; refine (nan _ _).mono ?_; rintro e w' ⟨rfl, rfl⟩)
    go_ret
    exact ⟨ret_i HC.out.symm, rfl⟩
  · have hl : Op.bytesLess s.toList t.toList = false := by simpa using hl
    by_cases he : (s.toList == t.toList) = true
    · have HC : Hid (cmpS s t = 0) := hid (by simp only [cmpS, ltS, eqS, hl, he]; simp)
      go_enter Tryz.func119, Tryz.ntmps119
      go_wp2_with (go_at_call 132; refine (nan _ _).mono ?_; rintro e w' ⟨rfl, rfl⟩)
      go_ret
      exact ⟨ret_i HC.out.symm, rfl⟩
    · have he : (s.toList == t.toList) = false := by simpa using he
      have HC : Hid (cmpS s t = 1) := hid (by simp [cmpS, ltS, eqS, hl, he])
      go_enter Tryz.func119, Tryz.ntmps119
      go_wp2_with (go_at_call 132; refine (nan _ _).mono ?_; rintro e w' ⟨rfl, rfl⟩)
      go_ret
      exact ⟨ret_i HC.out.symm, rfl⟩

theorem drop_gS {p : List ByteArray} {k : Nat} (h : k < p.length) : p.drop k = gS p k :: p.drop (k + 1) := by
  rw [List.drop_eq_getElem_cons h]; simp [gS, List.getD, h]
theorem cmpP_one {p q : List ByteArray} {k : Nat} (h : k < p.length) (h' : q.length ≤ k) : cmpP (p.drop k) (q.drop k) = 1 := by
  rw [drop_gS h, List.drop_eq_nil_of_le h']; rfl
theorem cmpP_neg {p q : List ByteArray} {k : Nat} (h : p.length ≤ k) (h' : k < q.length) : cmpP (p.drop k) (q.drop k) = -1 := by
  rw [drop_gS h', List.drop_eq_nil_of_le h]; rfl
theorem cmpP_nil {p q : List ByteArray} {k : Nat} (h : p.length ≤ k) (h' : q.length ≤ k) : cmpP (p.drop k) (q.drop k) = 0 := by
  rw [List.drop_eq_nil_of_le h', List.drop_eq_nil_of_le h]; rfl
theorem cmpP_go {p q : List ByteArray} {k : Nat} (h : k < p.length) (h' : k < q.length) : cmpP (p.drop k) (q.drop k) = if cmpS (gS p k) (gS q k) = 0 then cmpP (p.drop (k + 1)) (q.drop (k + 1)) else cmpS (gS p k) (gS q k) := by
  rw [drop_gS h, drop_gS h']; rfl

set_option maxRecDepth 100000 in
set_option maxHeartbeats 1000000 in
theorem cmpImpl (p q : List ByteArray) (a b : Option Addr) (c d : Nat) (w : World) (hp : p.length ≤ 1048576) (hq : q.length ≤ 1048576) (h : SSeg w a p) (h' : SSeg w b q) :
    Calls Tryz.prog 102 #[.slice a p.length c, .slice b q.length d] w fun e w' => e = .returned (.int .i64 (cmpP p q)) ∧ w' = w := by
  go_enter Tryz.func102, Tryz.ntmps102
  go_wp2_with fail
  go_loop [11] (fun i => ∃ k : Nat, k ≤ p.length ∧ i = .int .i64 (k : Int) ∧ k ≤ q.length ∧ Hid (cmpP p q = cmpP (p.drop k) (q.drop k))) (fun i => p.length - (intOf i).toNat)
  case atStart => exact ⟨0, Nat.zero_le _, rfl, Nat.zero_le _, hid rfl⟩
  case round =>
    obtain ⟨k, hk, rfl, hkq, HE⟩ := hrel
    by_cases hlt : k < p.length
    · rcases h with h | ⟨b1, o1, rfl, hb1, hc1⟩
      · omega
      have x0 := hc1 k hlt
      have i1 : (0 : Int) ≤ (k : Int) := Int.natCast_nonneg _
      have i2 : (k : Int) < (p.length : Int) := by omega
      by_cases hlq : k < q.length
      · rcases h' with h' | ⟨b2, o2, rfl, hb2, hc2⟩
        · omega
        have y0 := hc2 k hlq
        have i3 : (k : Int) < (q.length : Int) := by omega
        have i4 : decide ((q.length : Int) ≤ (k : Int)) = false := by simp; omega
        have HG := hid (cmpP_go hlt hlq)
        obtain ⟨s, hs⟩ : ∃ s, gS p k = s := ⟨_, rfl⟩
        obtain ⟨t, ht⟩ : ∃ t, gS q k = t := ⟨_, rfl⟩
        rw [hs] at x0
        rw [ht] at y0
        have HG : Hid (cmpP p q = if cmpS s t = 0 then cmpP (p.drop (k + 1)) (q.drop (k + 1)) else cmpS s t) := hid (by rw [HE.out, HG.out, hs, ht])
        have HC := hid (cmpStr s t w)
        obtain ⟨x, hx⟩ : ∃ x, cmpS s t = x := ⟨_, rfl⟩
        rw [hx] at HC HG
        clear hc1 hc2 hs ht HE hx
        go_wp2_with fail
        refine HC.out.mono ?_
        rintro e w' ⟨rfl, rfl⟩
        by_cases h0 : x = 0
        · subst h0
          have HG : Hid (cmpP p q = cmpP (p.drop (k + 1)) (q.drop (k + 1))) := hid (by rw [HG.out, if_pos rfl])
          go_wp2_with fail
          go_round
          case rel => exact ⟨k + 1, hlt, by go_num, hlq, HG⟩
          case measure => simp [intOf]; omega
        · have HG : Hid (cmpP p q = x) := hid (by rw [HG.out, if_neg h0])
          have n0 : (x != 0) = true := by simpa using h0
          go_wp2_with fail
          go_ret
          exact ⟨ret_i HG.out.symm, rfl⟩
      · have i4 : decide ((q.length : Int) ≤ (k : Int)) = true := by simp; omega
        have HG : Hid (cmpP p q = 1) := hid (by rw [HE.out]; exact cmpP_one hlt (by omega))
        clear hc1 HE
        go_wp2_with fail
        go_ret
        exact ⟨ret_i HG.out.symm, rfl⟩
    · obtain rfl : k = p.length := by omega
      by_cases hlq : p.length < q.length
      · have HG : Hid (cmpP p q = -1) := hid (by rw [HE.out]; exact cmpP_neg (Nat.le_refl _) hlq)
        have i4 : decide ((p.length : Int) < (q.length : Int)) = true := by simp; omega
        clear h h' HE
        go_wp2_with fail
        go_ret
        exact ⟨ret_i HG.out.symm, rfl⟩
      · have HG : Hid (cmpP p q = 0) := hid (by rw [HE.out]; exact cmpP_nil (Nat.le_refl _) (by omega))
        have i4 : decide ((p.length : Int) < (q.length : Int)) = false := by simp; omega
        clear h h' HE
        go_wp2_with fail
        go_ret
        exact ⟨ret_i HG.out.symm, rfl⟩
end Go.Proofs.YtdenbicnckkdfaaGreat

namespace Go.Proofs.YtdenbicnckkdfaaGreat
open Go.ChangeShapes Go.WideShapes Go.ChangeAt Go.RowKit
set_option linter.unusedVariables false
set_option linter.unusedSimpArgs false

def PthOk (p : List ByteArray) : Prop := 1 ≤ p.length ∧ p.length ≤ 8 ∧ ∀ i, i < p.length → 1 ≤ (gS p i).size ∧ (gS p i).size ≤ 40
noncomputable def yes (P : Prop) : Bool := @decide P (Classical.propDecidable P)
theorem yes_t {P : Prop} (h : P) : yes P = true := by unfold yes; exact @decide_eq_true _ (Classical.propDecidable P) h
theorem yes_f {P : Prop} (h : ¬ P) : yes P = false := by unfold yes; exact @decide_eq_false _ (Classical.propDecidable P) h
theorem yes_iff {P : Prop} : yes P = true ↔ P := ⟨fun h => by unfold yes at h; exact @of_decide_eq_true _ (Classical.propDecidable P) h, yes_t⟩
theorem ret_b {x y : Bool} (h : x = y) : Ending.returned (.bool x) = .returned (.bool y) := by rw [h]

set_option maxRecDepth 100000 in
set_option maxHeartbeats 1000000 in
theorem pathSpec (p : List ByteArray) (a : Option Addr) (c : Nat) (w : World) (hp : p.length ≤ 1048576) (h : SSeg w a p) :
    Calls Tryz.prog 60 #[.slice a p.length c] w fun e w' => e = .returned (.bool (yes (PthOk p))) ∧ w' = w := by
  go_enter Tryz.func60, Tryz.ntmps60
  go_wp2_with fail
  go_loop [3] (fun i => ∃ k : Nat, k ≤ p.length ∧ i = .int .i64 (k : Int) ∧ Hid (∀ j, j < k → 1 ≤ (gS p j).size ∧ (gS p j).size ≤ 40)) (fun i => p.length - (intOf i).toNat)
  case atStart => exact ⟨0, Nat.zero_le _, rfl, hid (fun j hj => by omega)⟩
  case round =>
    obtain ⟨k, hk, rfl, HE⟩ := hrel
    by_cases hlt : k < p.length
    · rcases h with h | ⟨b1, o1, rfl, hb1, hc1⟩
      · omega
      have x0 := hc1 k hlt
      have i1 : (0 : Int) ≤ (k : Int) := Int.natCast_nonneg _
      have i2 : (k : Int) < (p.length : Int) := by omega
      obtain ⟨s, hs⟩ : ∃ s, gS p k = s := ⟨_, rfl⟩
      rw [hs] at x0
      have HS := hid hs
      clear hc1 hs
      by_cases h1 : (s.size : Int) < 1
      · have d1 : decide ((s.size : Int) < 1) = true := by simpa using h1
        have HG : Hid (yes (PthOk p) = false) := hid (yes_f (fun h => by have := (h.2.2 k hlt).1; rw [HS.out] at this; omega))
        go_wp2_with fail
        go_ret
        exact ⟨ret_b HG.out.symm, rfl⟩
      · have d1 : decide ((s.size : Int) < 1) = false := by simpa using h1
        by_cases h2 : (40 : Int) < (s.size : Int)
        · have d2 : decide ((40 : Int) < (s.size : Int)) = true := by simpa using h2
          have HG : Hid (yes (PthOk p) = false) := hid (yes_f (fun h => by have := (h.2.2 k hlt).2; rw [HS.out] at this; omega))
          go_wp2_with fail
          go_ret
          exact ⟨ret_b HG.out.symm, rfl⟩
        · have d2 : decide ((40 : Int) < (s.size : Int)) = false := by simpa using h2
          have HG : Hid (∀ j, j < k + 1 → 1 ≤ (gS p j).size ∧ (gS p j).size ≤ 40) := hid (fun j hj => by
            by_cases e : j = k
            · rw [e, HS.out]; omega
            · exact HE.out j (by omega))
          go_wp2_with fail
          go_round
          case rel => exact ⟨k + 1, hlt, by go_num, HG⟩
          case measure => simp [intOf]; omega
    · obtain rfl : k = p.length := by omega
      have HG : Hid (yes (PthOk p) = decide (1 ≤ p.length ∧ p.length ≤ 8)) := hid (by
        by_cases q : 1 ≤ p.length ∧ p.length ≤ 8
        · rw [yes_t ⟨q.1, q.2, HE.out⟩, decide_eq_true q]
        · rw [yes_f (fun h => q ⟨h.1, h.2.1⟩), decide_eq_false q])
      clear h HE
      by_cases h1 : (1 : Int) ≤ (p.length : Int)
      · have d1 : decide ((1 : Int) ≤ (p.length : Int)) = true := by simpa using h1
        by_cases h2 : (p.length : Int) ≤ 8
        · have d2 : decide ((p.length : Int) ≤ 8) = true := by simpa using h2
          have HG : Hid (yes (PthOk p) = true) := hid (by rw [HG.out]; exact decide_eq_true (by omega))
          go_wp2_with fail
          go_ret
          exact ⟨ret_b HG.out.symm, rfl⟩
        · have d2 : decide ((p.length : Int) ≤ 8) = false := by simpa using h2
          have HG : Hid (yes (PthOk p) = false) := hid (by rw [HG.out]; exact decide_eq_false (by omega))
          go_wp2_with fail
          go_ret
          exact ⟨ret_b HG.out.symm, rfl⟩
      · have d1 : decide ((1 : Int) ≤ (p.length : Int)) = false := by simpa using h1
        have HG : Hid (yes (PthOk p) = false) := hid (by rw [HG.out]; exact decide_eq_false (by omega))
        go_wp2_with fail
        go_ret
        exact ⟨ret_b HG.out.symm, rfl⟩

set_option maxRecDepth 100000 in
set_option maxHeartbeats 1000000 in
theorem pathImpl (p : List ByteArray) (a : Option Addr) (c : Nat) (w : World) (hp : p.length ≤ 1048576) (h : SSeg w a p) :
    Calls Tryz.prog 135 #[.slice a p.length c] w fun e w' => e = .returned (.bool (yes (PthOk p))) ∧ w' = w := by
  by_cases h1 : (p.length : Int) < 1
  · have d1 : decide ((p.length : Int) < 1) = true := by simpa using h1
    have HG : Hid (yes (PthOk p) = false) := hid (yes_f (fun h => by have := h.1; omega))
    clear h
    go_enter Tryz.func135, Tryz.ntmps135
    go_wp2_with fail
    go_ret
    exact ⟨ret_b HG.out.symm, rfl⟩
  · have d1 : decide ((p.length : Int) < 1) = false := by simpa using h1
    by_cases h2 : (8 : Int) < (p.length : Int)
    · have d2 : decide ((8 : Int) < (p.length : Int)) = true := by simpa using h2
      have HG : Hid (yes (PthOk p) = false) := hid (yes_f (fun h => by have := h.2.1; omega))
      clear h
      go_enter Tryz.func135, Tryz.ntmps135
      go_wp2_with fail
      go_ret
      exact ⟨ret_b HG.out.symm, rfl⟩
    · have d2 : decide ((8 : Int) < (p.length : Int)) = false := by simpa using h2
      go_enter Tryz.func135, Tryz.ntmps135
      go_wp2_with fail
      clear d1 d2
      go_loop [15] (fun i => ∃ k : Nat, k ≤ p.length ∧ i = .int .i64 (k : Int) ∧ Hid (∀ j, j < k → 1 ≤ (gS p j).size ∧ (gS p j).size ≤ 40)) (fun i => p.length - (intOf i).toNat)
      case atStart => exact ⟨0, Nat.zero_le _, rfl, hid (fun j hj => by omega)⟩
      case round =>
        obtain ⟨k, hk, rfl, HE⟩ := hrel
        by_cases hlt : k < p.length
        · rcases h with h | ⟨b1, o1, rfl, hb1, hc1⟩
          · omega
          have x0 := hc1 k hlt
          have i1 : (0 : Int) ≤ (k : Int) := Int.natCast_nonneg _
          have i2 : (k : Int) < (p.length : Int) := by omega
          obtain ⟨s, hs⟩ : ∃ s, gS p k = s := ⟨_, rfl⟩
          rw [hs] at x0
          have HS := hid hs
          clear hc1 hs
          by_cases h1 : (s.size : Int) < 1
          · have d1 : decide ((s.size : Int) < 1) = true := by simpa using h1
            have HG : Hid (yes (PthOk p) = false) := hid (yes_f (fun h => by have := (h.2.2 k hlt).1; rw [HS.out] at this; omega))
            go_wp2_with fail
            go_ret
            exact ⟨ret_b HG.out.symm, rfl⟩
          · have d1 : decide ((s.size : Int) < 1) = false := by simpa using h1
            by_cases h2 : (40 : Int) < (s.size : Int)
            · have d2 : decide ((40 : Int) < (s.size : Int)) = true := by simpa using h2
              have HG : Hid (yes (PthOk p) = false) := hid (yes_f (fun h => by have := (h.2.2 k hlt).2; rw [HS.out] at this; omega))
              go_wp2_with fail
              go_ret
              exact ⟨ret_b HG.out.symm, rfl⟩
            · have d2 : decide ((40 : Int) < (s.size : Int)) = false := by simpa using h2
              have HG : Hid (∀ j, j < k + 1 → 1 ≤ (gS p j).size ∧ (gS p j).size ≤ 40) := hid (fun j hj => by
                by_cases e : j = k
                · rw [e, HS.out]; omega
                · exact HE.out j (by omega))
              go_wp2_with fail
              go_round
              case rel => exact ⟨k + 1, hlt, by go_num, HG⟩
              case measure => simp [intOf]; omega
        · obtain rfl : k = p.length := by omega
          have HG : Hid (yes (PthOk p) = true) := hid (yes_t ⟨by omega, by omega, HE.out⟩)
          clear h HE
          go_wp2_with fail
          go_ret
          exact ⟨ret_b HG.out.symm, rfl⟩
end Go.Proofs.YtdenbicnckkdfaaGreat
