import Derived.Test.YtdenbicnckkdfaaGreatMg05
namespace Go.Proofs.YtdenbicnckkdfaaGreat
open Go.ChangeShapes Go.WideShapes Go.ChangeAt Go.RowKit Go.Maps
set_option linter.unusedVariables false
set_option linter.unusedSimpArgs false

theorem last_cell {w : World} {B g n cap : Nat} {l : List (Int × Int)} (h : w.ownsRow B 164 2 (.slice (some ⟨g, 0, none⟩) n cap) n (spanCells l)) (hl : l.length = n) (h0 : 0 < n) :
    w.cell? ⟨g, (n - 1) * 2 + 1, none⟩ = some (.int .i64 (lastTo l)) := by
  rw [h.cellAt _ (by omega)]
  obtain ⟨l', p, rfl⟩ : ∃ l' p, l = l' ++ [p] := ⟨l.dropLast, l.getLast (by intro e; rw [e] at hl; simp at hl; omega), (List.dropLast_concat_getLast _).symm⟩
  have hlen : (spanCells l').length = l'.length * 2 := by
    clear h hl
    induction l' with
    | nil => rfl
    | cons a l ih => simp [spanCells] at *; omega
  simp at hl
  rw [lastTo_snoc, spanCells_append, List.getElem?_append_right (by rw [hlen]; omega), hlen, show (n - 1) * 2 + 1 - l'.length * 2 = 1 from by omega]
  rfl

end Go.Proofs.YtdenbicnckkdfaaGreat

namespace Go.Proofs.YtdenbicnckkdfaaGreat
open Go.ChangeShapes Go.WideShapes Go.ChangeAt Go.RowKit Go.Maps
set_option linter.unusedVariables false
set_option linter.unusedSimpArgs false

def cmpI (x y : Int) : Int := if x < y then -1 else if y < x then 1 else 0

set_option maxHeartbeats 400000 in
theorem compare (x y : Int) (w : World) : Calls Tryz.prog 103 #[.int .i64 x, .int .i64 y] w fun e w' => e = .returned (.int .i64 (cmpI x y)) ∧ w' = w := by
  by_cases h1 : x < y
  · have HE : Hid (cmpI x y = -1) := if_pos h1
    go_enter Tryz.func103, Tryz.ntmps103
    go_wp2
    go_ret
    exact ⟨ret_int HE.out.symm, rfl⟩
  · by_cases h2 : y < x
    · have HE : Hid (cmpI x y = 1) := by unfold Hid cmpI; rw [if_neg h1, if_pos h2]
      go_enter Tryz.func103, Tryz.ntmps103
      go_wp2
      go_ret
      exact ⟨ret_int HE.out.symm, rfl⟩
    · have HE : Hid (cmpI x y = 0) := by unfold Hid cmpI; rw [if_neg h1, if_neg h2]
      go_enter Tryz.func103, Tryz.ntmps103
      go_wp2
      go_ret
      exact ⟨ret_int HE.out.symm, rfl⟩

set_option maxHeartbeats 400000 in
theorem holds1 (f t q : Int) (w : World) : Calls Tryz.prog 154 #[.agg #[.int .i64 f, .int .i64 t], .int .i64 q] w fun e w' => e = .returned (.int .i64 (cmpI t q)) ∧ Below w.heap.size w w' := by
  go_enter Tryz.func154, Tryz.ntmps154
  go_wp2_with fail
  refine (compare t q _).mono ?_
  rintro e w1 ⟨rfl, rfl⟩
  go_wp2_with fail
  go_ret
  exact ⟨rfl, (Below.refl _ _).alloc (Nat.le_refl _) _⟩

set_option maxRecDepth 100000 in
set_option maxHeartbeats 1000000 in
theorem bsearch (a : Option Addr) (n c : Nat) (f t : Nat → Int) (q : Int) (w : World) (hn : n ≤ 1000000) (h : SS w a n f t) (hm : ∀ i j, i < j → j < n → t i < t j) :
    Calls Tryz.prog 153 #[.slice a n c, .int .i64 q, .func (.func 154) #[] #[]] w fun e w' => ∃ (i : Nat) (b : Bool), e = .returned (.tuple #[.int .i64 i, .bool b]) ∧ i ≤ n ∧ (∀ j, j < i → t j < q) ∧ (∀ j, i ≤ j → j < n → q ≤ t j) ∧ Below w.heap.size w w' := by
  go_enter Tryz.func153, Tryz.ntmps153
  go_wp2_with fail
  go_loopw [9, 10] (fun vi vj wr => ∃ i j : Nat, i ≤ j ∧ j ≤ n ∧ vi = .int .i64 i ∧ vj = .int .i64 j ∧ (∀ k, k < i → t k < q) ∧ (∀ k, j ≤ k → k < n → q ≤ t k) ∧ Below w.heap.size w wr) (fun vi vj _ => (intOf vj).toNat - (intOf vi).toNat)
  case atStart => exact ⟨0, n, Nat.zero_le _, Nat.le_refl _, rfl, rfl, fun k hk => by omega, fun k h1 h2 => by omega, Below.refl _ _⟩
  case round =>
    obtain ⟨i, j, hij, hjn, rfl, rfl, hlo, hhi, hbel⟩ := hrel
    have HL := hid hlo
    have HH := hid hhi
    have HM := hid hm
    have HB := hid hbel
    rcases h with h | ⟨b, off, rfl, hb, hc⟩
    · have hi0 : i = 0 := by omega
      have hj0 : j = 0 := by omega
      subst h hi0 hj0
      clear hlo hhi hbel hm
      go_wp2_with fail
      go_ret2
      exact ⟨0, false, rfl, by omega, fun k hk => by omega, fun k _ hk => by omega, HB.out⟩
    by_cases hlt : i < j
    · obtain ⟨m, hmd⟩ : ∃ m : Nat, m = (i + j) / 2 := ⟨_, rfl⟩
      have hme : ((i : Int) + (j : Int)) / 2 = (m : Int) := by omega
      have c0 := (hbel.cell (p := ⟨b, off + m * 2, none⟩) hb).trans (hc m (by omega)).1
      have c1 := (hbel.cell (p := ⟨b, off + m * 2 + 1, none⟩) hb).trans (hc m (by omega)).2
      have hmi : i ≤ m := by omega
      have hmj : m < j := by omega
      clear hlo hhi hbel hm hc hmd
      go_wp2_with fail
      refine (holds1 (f m) (t m) q _).mono ?_
      rintro e w2 ⟨rfl, b2⟩
      have HZ := hid (keepS HB.out b2)
      clear b2
      by_cases htm : t m < q
      · rw [show cmpI (t m) q = -1 from if_pos htm]
        have HX : Hid (∀ k, k < m + 1 → t k < q) := fun k hk => by
          by_cases e : k = m
          · subst e; exact htm
          · have := HM.out k m (by omega) (by omega); omega
        clear c0 c1 htm hme
        go_wp2_with fail
        go_roundw
        case rel => exact ⟨m + 1, j, by omega, hjn, by go_num, rfl, HX.out, HH.out, HZ.out⟩
        case measure => simp [intOf]; omega
      · have hcv : 0 ≤ cmpI (t m) q := by unfold cmpI; rw [if_neg htm]; split <;> omega
        generalize cmpI (t m) q = cv at hcv
        have HX : Hid (∀ k, m ≤ k → k < n → q ≤ t k) := fun k h1 h2 => by
          by_cases e : k = m
          · subst e; omega
          · have := HM.out m k (by omega) (by omega); omega
        clear c0 c1 htm hme
        go_wp2_with fail
        go_roundw
        case rel => exact ⟨i, m, by omega, by omega, rfl, rfl, HL.out, HX.out, HZ.out⟩
        case measure => simp [intOf]; omega
    · obtain rfl : i = j := by omega
      clear hlo hhi hm
      by_cases hin : i < n
      · have c0 := (hbel.cell (p := ⟨b, off + i * 2, none⟩) hb).trans (hc i (by omega)).1
        have c1 := (hbel.cell (p := ⟨b, off + i * 2 + 1, none⟩) hb).trans (hc i (by omega)).2
        clear hc hbel
        go_wp2_with fail
        refine (holds1 (f i) (t i) q _).mono ?_
        rintro e w2 ⟨rfl, b2⟩
        have HZ := hid (keepS HB.out b2)
        clear b2 c0 c1
        generalize cmpI (t i) q = cv
        go_wp2_with fail
        go_ret2
        exact ⟨i, cv == 0, rfl, by omega, HL.out, HH.out, HZ.out⟩
      · clear hc hbel
        go_wp2_with fail
        go_ret2
        exact ⟨i, false, rfl, by omega, HL.out, HH.out, HB.out⟩

def inB (l : List (Int × Int)) (f t : Int) : Bool := l.any fun p => decide (p.1 ≤ f ∧ t ≤ p.2)

theorem in_iff {l : List (Int × Int)} (h : Srt l) (f t : Int) (i : Nat) (hi : i ≤ l.length) (hlo : ∀ j, j < i → (l.getD j (0, 0)).2 < t) (hhi : ∀ j, i ≤ j → j < l.length → t ≤ (l.getD j (0, 0)).2) :
    inB l f t = (decide (i < l.length) && decide ((l.getD i (0, 0)).1 ≤ f)) := by
  rw [Bool.eq_iff_iff]
  simp only [inB, List.any_eq_true, decide_eq_true_iff, Bool.and_eq_true]
  constructor
  · rintro ⟨p, hp, h1, h2⟩
    obtain ⟨j, hj, rfl⟩ := List.getElem_of_mem hp
    have e2 : l.getD j (0, 0) = l[j] := by simp [List.getD, hj]
    have hij : i ≤ j := by
      by_cases hlt : j < i
      · have := hlo j hlt; rw [e2] at this; omega
      · omega
    refine ⟨by omega, ?_⟩
    by_cases e : i = j
    · subst e; rw [e2]; exact h1
    · have := srt_get h (show i < j by omega) hj
      rw [e2] at this
      omega
  · rintro ⟨h1, h2⟩
    have e1 : l.getD i (0, 0) = l[i] := by simp [List.getD, h1]
    refine ⟨l[i], List.getElem_mem _, ?_, ?_⟩
    · rw [← e1]; exact h2
    · rw [← e1]; exact hhi i (Nat.le_refl _) h1
end Go.Proofs.YtdenbicnckkdfaaGreat
