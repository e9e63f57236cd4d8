import Derived.Test.YtkhicohhahaahaaSta
namespace Go.Proofs.Ytkhicohhahaahaa
open Go.ChangeShapes Go.WideShapes Go.ChangeAt Go.RowKit
set_option linter.unusedVariables false
set_option linter.unusedSimpArgs false

def PBig (p : List ByteArray) : Prop := p.length ≤ 9223372036854775807 ∧ ∀ i, (gS p i).size ≤ 9223372036854775807
def PSm (p : List ByteArray) : Prop := p.length ≤ 1048576 ∧ ∀ i, (gS p i).size ≤ 1048576
def LfBig (x : Lf) : Prop := PBig x.p ∧ x.v.size ≤ 9223372036854775807
def LfSm (x : Lf) : Prop := PSm x.p ∧ x.v.size ≤ 1048576
theorem gS_far {p : List ByteArray} {i : Nat} (h : p.length ≤ i) : gS p i = ByteArray.empty := by simp [gS, List.getD, List.getElem?_eq_none h]

set_option maxRecDepth 100000 in
set_option maxHeartbeats 1000000 in
theorem szStrings (a : Option Addr) (c : Nat) (p : List ByteArray) (k : Int) (w : World) (hk0 : 0 ≤ k) (hk1 : k ≤ 1048576) (hb : PBig p) (h : SSeg w a p) :
    Calls Try.prog 5 #[.slice a p.length c, .int .i64 k] w fun e w' => (∃ k', e = .returned (.int .i64 k') ∧ -1 ≤ k' ∧ k' ≤ k ∧ (0 ≤ k' → PSm p)) ∧ w' = w := by
  obtain ⟨hb1, hb2⟩ := hb
  by_cases hlen : k < (p.length : Int)
  · obtain ⟨k1, hk⟩ : ∃ k1, k - (p.length : Int) = k1 := ⟨_, rfl⟩
    have w1 : IntKind.i64.wrap k1 = k1 := by rw [IntKind.wrap_i64]; omega
    have w2 : IntKind.i64.wrap (k - (p.length : Int)) = k1 := by rw [IntKind.wrap_i64]; omega
    have d0 : decide (k1 < 0) = true := by simp; omega
    clear h hb2
    go_enter Try.func5, Try.ntmps5
    go_wp2_with fail
    go_ret
    exact ⟨⟨-1, rfl, by omega, by omega, fun h => by omega⟩, rfl⟩
  · obtain ⟨k1, hk⟩ : ∃ k1, k - (p.length : Int) = k1 := ⟨_, rfl⟩
    have w1 : IntKind.i64.wrap k1 = k1 := by rw [IntKind.wrap_i64]; omega
    have w2 : IntKind.i64.wrap (k - (p.length : Int)) = k1 := by rw [IntKind.wrap_i64]; omega
    have d0 : decide (k1 < 0) = false := by simp; omega
    have hpl : p.length ≤ 1048576 := by omega
    go_enter Try.func5, Try.ntmps5
    go_wp2_with fail
    have hk1' : 0 ≤ k1 ∧ k1 ≤ k := by omega
    clear hk w1 w2 d0 hlen
    go_loop [1, 5] (fun kv iv => ∃ (j : Nat) (kk : Int), j ≤ p.length ∧ iv = .int .i64 (j : Int) ∧ kv = .int .i64 kk ∧ 0 ≤ kk ∧ kk ≤ k ∧ Hid (∀ i, i < j → (gS p i).size ≤ 1048576)) (fun _ iv => p.length - (intOf iv).toNat)
    case atStart => exact ⟨0, k1, Nat.zero_le _, rfl, rfl, hk1'.1, hk1'.2, hid (fun i hi => by omega)⟩
    case round =>
      obtain ⟨j, kk, hj, rfl, rfl, hkk0, hkk1, hsm⟩ := hrel
      by_cases hlt : j < p.length
      · rcases h with h | ⟨b, off, rfl, hbl, hc⟩
        · omega
        have x0 := hc j hlt
        have hsz := hb2 j
        obtain ⟨s, hs⟩ : ∃ s, gS p j = s := ⟨_, rfl⟩
        rw [hs] at x0 hsz
        have i1 : (0 : Int) ≤ (j : Int) := Int.natCast_nonneg _
        have i2 : (j : Int) < (p.length : Int) := by omega
        have HS := hid hs
        obtain ⟨k2, hk2⟩ : ∃ k2, kk - (s.size : Int) = k2 := ⟨_, rfl⟩
        have w1 : IntKind.i64.wrap k2 = k2 := by rw [IntKind.wrap_i64]; omega
        have w2 : IntKind.i64.wrap (kk - (s.size : Int)) = k2 := by rw [IntKind.wrap_i64]; omega
        clear hc hs
        by_cases hneg : k2 < 0
        · have d0 : decide (k2 < 0) = true := by simpa using hneg
          go_wp2_with fail
          go_ret
          exact ⟨⟨-1, rfl, by omega, by omega, fun h => by omega⟩, rfl⟩
        · have d0 : decide (k2 < 0) = false := by simpa using hneg
          have HN : Hid (∀ i, i < j + 1 → (gS p i).size ≤ 1048576) := hid (fun i hi => by
            by_cases e : i = j
            · rw [e, HS.out]; omega
            · exact hsm.out i (by omega))
          go_wp2_with fail
          go_round
          case rel => exact ⟨j + 1, k2, hlt, by go_num, rfl, by omega, by omega, HN⟩
          case measure => simp [intOf]; omega
      · obtain rfl : j = p.length := by omega
        have HP : Hid (PSm p) := hid ⟨hpl, fun i => by
          by_cases hi : i < p.length
          · exact hsm.out i hi
          · rw [gS_far (by omega)]; simp⟩
        clear h
        go_wp2_with fail
        go_ret
        exact ⟨⟨kk, rfl, by omega, hkk1, fun _ => HP.out⟩, rfl⟩

set_option maxRecDepth 100000 in
set_option maxHeartbeats 1000000 in
theorem szLeafC (a : Option Addr) (c : Nat) (x : Lf) (k : Int) (w : World) (hk0 : 0 ≤ k) (hk1 : k ≤ 1048576) (hb : LfBig x) (h : SSeg w a x.p) :
    Calls Try.prog 33 #[.agg #[.slice a x.p.length c, .bool x.fl, .int .i64 x.r, .int .i64 x.q, .string x.v], .int .i64 k] w fun e w' => (∃ k', e = .returned (.int .i64 k') ∧ -1 ≤ k' ∧ k' ≤ k ∧ (0 ≤ k' → LfSm x)) ∧ Below w.heap.size w w' := by
  obtain ⟨p, fl, r, q, v⟩ := x
  obtain ⟨hb1, hb2⟩ := hb
  dsimp only at hb1 hb2 h ⊢
  obtain ⟨W, hW⟩ : ∃ W, w.alloc (.cells #[.slice a p.length c, .bool fl, .int .i64 r, .int .i64 q, .string v] 78) = W := ⟨_, rfl⟩
  have b0 : Below w.heap.size w W := by rw [← hW]; exact (Below.refl _ _).alloc (Nat.le_refl _) _
  have k0 : W.cell? ⟨w.heap.size, 0, none⟩ = some (.slice a p.length c) := by rw [← hW]; simp
  have k4 : W.cell? ⟨w.heap.size, 4, none⟩ = some (.string v) := by rw [← hW]; simp
  have HS := hid (szStrings a c p k W hk0 hk1 hb1 (h.below b0))
  have HB0 := hid b0
  clear h b0 hb1
  go_enter Try.func33, Try.ntmps33
  go_wp2_with fail
  try rw [hW]
  clear hW
  refine HS.out.mono ?_
  rintro e w1 ⟨⟨k', rfl, hk'0, hk'1, hps⟩, rfl⟩
  have HPS := hid hps
  clear hps HS
  by_cases hneg : k' < 0
  · have d0 : decide (k' < 0) = true := by simpa using hneg
    go_wp2_with fail
    go_ret
    exact ⟨⟨-1, rfl, by omega, by omega, fun h => by omega⟩, HB0.out⟩
  · have d0 : decide (k' < 0) = false := by simpa using hneg
    obtain ⟨k2, hk2⟩ : ∃ k2, k' - (v.size : Int) = k2 := ⟨_, rfl⟩
    have w1 : IntKind.i64.wrap k2 = k2 := by rw [IntKind.wrap_i64]; omega
    have w2 : IntKind.i64.wrap (k' - (v.size : Int)) = k2 := by rw [IntKind.wrap_i64]; omega
    by_cases hneg2 : k2 < 0
    · have d1 : decide (k2 < 0) = true := by simpa using hneg2
      go_wp2_with fail
      go_ret
      exact ⟨⟨-1, rfl, by omega, by omega, fun h => by omega⟩, HB0.out⟩
    · have d1 : decide (k2 < 0) = false := by simpa using hneg2
      go_wp2_with fail
      go_ret
      exact ⟨⟨k2, rfl, by omega, by omega, fun _ => ⟨HPS.out (by omega), by show v.size ≤ 1048576; omega⟩⟩, HB0.out⟩

set_option maxRecDepth 100000 in
set_option maxHeartbeats 1000000 in
theorem szLeaves (a : Option Addr) (c : Nat) (l : List Lf) (k : Int) (w : World) (hk0 : 0 ≤ k) (hk1 : k ≤ 1048576) (hn : l.length ≤ 9223372036854775807) (hb : ∀ i, LfBig (gL l i)) (h : LSeg w a l) :
    Calls Try.prog 15 #[.slice a l.length c, .int .i64 k] w fun e w' => (∃ k', e = .returned (.int .i64 k') ∧ -1 ≤ k' ∧ k' ≤ k ∧ (0 ≤ k' → l.length ≤ 1048576 ∧ ∀ i, LfSm (gL l i))) ∧ Below w.heap.size w w' := by
  obtain ⟨k1, hk⟩ : ∃ k1, k - (l.length : Int) = k1 := ⟨_, rfl⟩
  have w1 : IntKind.i64.wrap k1 = k1 := by rw [IntKind.wrap_i64]; omega
  have w2 : IntKind.i64.wrap (k - (l.length : Int)) = k1 := by rw [IntKind.wrap_i64]; omega
  by_cases hneg : k1 < 0
  · have d0 : decide (k1 < 0) = true := by simpa using hneg
    clear h hb
    go_enter Try.func15, Try.ntmps15
    go_wp2_with fail
    go_ret
    exact ⟨⟨-1, rfl, by omega, by omega, fun h => by omega⟩, Below.refl _ _⟩
  · have d0 : decide (k1 < 0) = false := by simpa using hneg
    have hpl : l.length ≤ 1048576 := by omega
    go_enter Try.func15, Try.ntmps15
    go_wp2_with fail
    have hk1' : 0 ≤ k1 ∧ k1 ≤ k := by omega
    clear hk w1 w2 d0 hneg
    go_loopw [1, 5] (fun kv iv wr => ∃ (j : Nat) (kk : Int), j ≤ l.length ∧ iv = .int .i64 (j : Int) ∧ kv = .int .i64 kk ∧ 0 ≤ kk ∧ kk ≤ k ∧ Hid (∀ i, i < j → LfSm (gL l i)) ∧ Hid (Below w.heap.size w wr)) (fun _ iv _ => l.length - (intOf iv).toNat)
    case atStart => exact ⟨0, k1, Nat.zero_le _, rfl, rfl, hk1'.1, hk1'.2, hid (fun i hi => by omega), hid (Below.refl _ _)⟩
    case round =>
      obtain ⟨j, kk, hj, rfl, rfl, hkk0, hkk1, hsm, hbel⟩ := hrel
      by_cases hlt : j < l.length
      · rcases h with h | ⟨b, off, rfl, hbl, hc⟩
        · omega
        obtain ⟨pa, pc, c0, s, c1, c2, c3, c4⟩ := hc j hlt
        have x0 := (hbel.out.cell (p := ⟨b, off + j * 5, none⟩) hbl).trans c0
        have x1 := (hbel.out.cell (p := ⟨b, off + j * 5 + 1, none⟩) hbl).trans c1
        have x2 := (hbel.out.cell (p := ⟨b, off + j * 5 + 2, none⟩) hbl).trans c2
        have x3 := (hbel.out.cell (p := ⟨b, off + j * 5 + 3, none⟩) hbl).trans c3
        have x4 := (hbel.out.cell (p := ⟨b, off + j * 5 + 4, none⟩) hbl).trans c4
        have HSZ := hid (szLeafC pa pc (gL l j) kk wr hkk0 (by omega) (hb j) (s.below hbel.out))
        have i1 : (0 : Int) ≤ (j : Int) := Int.natCast_nonneg _
        have i2 : (j : Int) < (l.length : Int) := by omega
        clear hc c0 s c1 c2 c3 c4
        go_wp2_with fail
        refine HSZ.out.mono ?_
        rintro e w3 ⟨⟨k', rfl, hk'0, hk'1, hps⟩, b3⟩
        have HPS := hid hps
        have HB3 := hid (hbel.out.trans (b3.mono hbel.out.size))
        clear hps HSZ b3 x0 x1 x2 x3 x4
        by_cases hneg : k' < 0
        · have d0 : decide (k' < 0) = true := by simpa using hneg
          go_wp2_with fail
          go_ret
          exact ⟨⟨-1, rfl, by omega, by omega, fun h => by omega⟩, HB3.out⟩
        · have d0 : decide (k' < 0) = false := by simpa using hneg
          have HN : Hid (∀ i, i < j + 1 → LfSm (gL l i)) := hid (fun i hi => by
            by_cases e : i = j
            · rw [e]; exact HPS.out (by omega)
            · exact hsm.out i (by omega))
          go_wp2_with fail
          go_roundw
          case rel => exact ⟨j + 1, k', hlt, by go_num, rfl, by omega, by omega, HN, HB3⟩
          case measure => simp [intOf]; omega
      · obtain rfl : j = l.length := by omega
        have HP : Hid (l.length ≤ 1048576 ∧ ∀ i, LfSm (gL l i)) := hid ⟨hpl, fun i => by
          by_cases hi : i < l.length
          · exact hsm.out i hi
          · have e : gL l i = ⟨[], false, 0, 0, ByteArray.empty⟩ := by simp [gL, List.getD, List.getElem?_eq_none (show l.length ≤ i by omega)]
            rw [e]; exact ⟨⟨by simp, fun i => by rw [gS_far (by simp)]; simp⟩, by simp⟩⟩
        clear h
        go_wp2_with fail
        go_ret
        exact ⟨⟨kk, rfl, by omega, hkk1, fun _ => HP.out⟩, hbel.out⟩
end Go.Proofs.Ytkhicohhahaahaa
