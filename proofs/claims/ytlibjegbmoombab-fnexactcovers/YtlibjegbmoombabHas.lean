import Derived.Test.YtlibjegbmoombabNext
namespace Go.Proofs.Ytlibjegbmoombab
open Go.ChangeShapes Go.WideShapes Go.ChangeAt Go.RowKit Go.Maps
set_option linter.unusedVariables false
set_option linter.unusedSimpArgs false

def Srt (l : List (Int × Int)) : Prop := l.Pairwise (fun p q => p.2 + 1 < q.1) ∧ ∀ p ∈ l, 1 ≤ p.1 ∧ p.1 ≤ p.2 ∧ p.2 ≤ 1000000000

theorem Lk_srt {R F T : Nat → Int} : ∀ k : Nat, okTo R F T k → ∀ r, Srt (Lk R F T k r) ∧ ∀ p ∈ Lk R F T k r, p.2 ≤ lastTo (Lk R F T k r)
  | 0, _ => fun r => ⟨⟨List.Pairwise.nil, fun p hp => by cases hp⟩, fun p hp => by cases hp⟩
  | k + 1, h => by
    have hk : okTo R F T k := fun i hi => h i (by omega)
    have ih := Lk_srt k hk
    obtain ⟨i1, i2, i3, i4⟩ := Lk_inv k hk
    have ho := runOk_iff.1 (h k (by omega)).1
    have hap : 0 < k → (R (k - 1) < R k ∨ (R (k - 1) = R k ∧ T (k - 1) + 1 < F k)) := fun h0 => by
      have := (h k (by omega)).2 h0
      unfold apartB at this
      exact of_decide_eq_true this
    intro r
    show Srt (upd (Lk R F T k) (R k) (Lk R F T k (R k) ++ [(F k, T k)]) r) ∧ ∀ p ∈ upd (Lk R F T k) (R k) (Lk R F T k (R k) ++ [(F k, T k)]) r, p.2 ≤ lastTo (upd (Lk R F T k) (R k) (Lk R F T k (R k) ++ [(F k, T k)]) r)
    by_cases e : r = R k
    · subst e
      rw [upd_same]
      obtain ⟨⟨p1, p2⟩, p3⟩ := ih (R k)
      have hlt : ∀ p ∈ Lk R F T k (R k), p.2 + 1 < F k := by
        intro p hp
        obtain ⟨h0, hle⟩ := i1 (R k) (List.ne_nil_of_mem hp)
        have := p3 p hp
        rcases hap h0 with hh | ⟨hh, h2⟩
        · omega
        · rw [← hh, i2 h0] at this; omega
      refine ⟨⟨List.pairwise_append.2 ⟨p1, List.pairwise_singleton _ _, fun p hp q hq => ?_⟩, fun p hp => ?_⟩, fun p hp => ?_⟩
      · rw [List.mem_singleton] at hq; subst hq; exact hlt p hp
      · rcases List.mem_append.1 hp with hp | hp
        · exact p2 p hp
        · rw [List.mem_singleton] at hp; subst hp; exact ⟨by omega, by omega, by omega⟩
      · rw [lastTo_snoc]
        rcases List.mem_append.1 hp with hp | hp
        · have := hlt p hp; show p.2 ≤ T k; omega
        · rw [List.mem_singleton] at hp; subst hp; exact Int.le_refl _
    · rw [upd_other _ _ e]; exact ih r

def cmpI (x y : Int) : Int := if x < y then -1 else if y < x then 1 else 0

set_option maxHeartbeats 400000 in
theorem compare (x y : Int) (w : World) : Calls Try.prog 53 #[.int .i64 x, .int .i64 y] w fun e w' => e = .returned (.int .i64 (cmpI x y)) ∧ w' = w := by
  by_cases h1 : x < y
  · have HE : Hid (cmpI x y = -1) := if_pos h1
    go_enter Try.func53, Try.ntmps53
    go_wp2
    go_ret
    exact ⟨ret_int HE.out.symm, rfl⟩
  · by_cases h2 : y < x
    · have HE : Hid (cmpI x y = 1) := by unfold Hid cmpI; rw [if_neg h1, if_pos h2]
      go_enter Try.func53, Try.ntmps53
      go_wp2
      go_ret
      exact ⟨ret_int HE.out.symm, rfl⟩
    · have HE : Hid (cmpI x y = 0) := by unfold Hid cmpI; rw [if_neg h1, if_neg h2]
      go_enter Try.func53, Try.ntmps53
      go_wp2
      go_ret
      exact ⟨ret_int HE.out.symm, rfl⟩

set_option maxHeartbeats 400000 in
theorem holds1 (f t q : Int) (w : World) : Calls Try.prog 52 #[.agg #[.int .i64 f, .int .i64 t], .int .i64 q] w fun e w' => e = .returned (.int .i64 (cmpI t q)) ∧ Below w.heap.size w w' := by
  go_enter Try.func52, Try.ntmps52
  go_wp2_with fail
  refine (compare t q _).mono ?_
  rintro e w1 ⟨rfl, rfl⟩
  go_wp2_with fail
  go_ret
  exact ⟨rfl, (Below.refl _ _).alloc (Nat.le_refl _) _⟩

def SS (w : World) (a : Option Addr) (n : Nat) (f t : Nat → Int) : Prop :=
  n = 0 ∨ ∃ b off, a = some ⟨b, off, none⟩ ∧ b < w.heap.size ∧ ∀ i, i < n → w.cell? ⟨b, off + i * 2, none⟩ = some (.int .i64 (f i)) ∧ w.cell? ⟨b, off + i * 2 + 1, none⟩ = some (.int .i64 (t i))

set_option maxRecDepth 100000 in
set_option maxHeartbeats 1000000 in
theorem bsearch (a : Option Addr) (n c : Nat) (f t : Nat → Int) (q : Int) (w : World) (hn : n ≤ 1000000) (h : SS w a n f t) (hm : ∀ i j, i < j → j < n → t i < t j) :
    Calls Try.prog 51 #[.slice a n c, .int .i64 q, .func (.func 52) #[] #[]] w fun e w' => ∃ (i : Nat) (b : Bool), e = .returned (.tuple #[.int .i64 i, .bool b]) ∧ i ≤ n ∧ (∀ j, j < i → t j < q) ∧ (∀ j, i ≤ j → j < n → q ≤ t j) ∧ Below w.heap.size w w' := by
  go_enter Try.func51, Try.ntmps51
  go_wp2_with fail
  go_loopw [9, 10] (fun vi vj wr => ∃ i j : Nat, i ≤ j ∧ j ≤ n ∧ vi = .int .i64 i ∧ vj = .int .i64 j ∧ (∀ k, k < i → t k < q) ∧ (∀ k, j ≤ k → k < n → q ≤ t k) ∧ Below w.heap.size w wr) (fun vi vj _ => (intOf vj).toNat - (intOf vi).toNat)
  case atStart => exact ⟨0, n, Nat.zero_le _, Nat.le_refl _, rfl, rfl, fun k hk => by omega, fun k h1 h2 => by omega, Below.refl _ _⟩
  case round =>
    obtain ⟨i, j, hij, hjn, rfl, rfl, hlo, hhi, hbel⟩ := hrel
    have HL := hid hlo
    have HH := hid hhi
    have HM := hid hm
    have HB := hid hbel
    rcases h with h | ⟨b, off, rfl, hb, hc⟩
    · have hi0 : i = 0 := by omega
      have hj0 : j = 0 := by omega
      subst h hi0 hj0
      clear hlo hhi hbel hm
      go_wp2_with fail
      go_ret2
      exact ⟨0, false, rfl, by omega, fun k hk => by omega, fun k _ hk => by omega, HB.out⟩
    by_cases hlt : i < j
    · obtain ⟨m, hmd⟩ : ∃ m : Nat, m = (i + j) / 2 := ⟨_, rfl⟩
      have hme : ((i : Int) + (j : Int)) / 2 = (m : Int) := by omega
      have c0 := (hbel.cell (p := ⟨b, off + m * 2, none⟩) hb).trans (hc m (by omega)).1
      have c1 := (hbel.cell (p := ⟨b, off + m * 2 + 1, none⟩) hb).trans (hc m (by omega)).2
      have hmi : i ≤ m := by omega
      have hmj : m < j := by omega
      clear hlo hhi hbel hm hc hmd
      go_wp2_with fail
      refine (holds1 (f m) (t m) q _).mono ?_
      rintro e w2 ⟨rfl, b2⟩
      have HZ := hid (keepS HB.out b2)
      clear b2
      by_cases htm : t m < q
      · rw [show cmpI (t m) q = -1 from if_pos htm]
        have HX : Hid (∀ k, k < m + 1 → t k < q) := fun k hk => by
          by_cases e : k = m
          · subst e; exact htm
          · have := HM.out k m (by omega) (by omega); omega
        clear c0 c1 htm hme
        go_wp2_with fail
        go_roundw
        case rel => exact ⟨m + 1, j, by omega, hjn, by go_num, rfl, HX.out, HH.out, HZ.out⟩
        case measure => simp [intOf]; omega
      · have hcv : 0 ≤ cmpI (t m) q := by unfold cmpI; rw [if_neg htm]; split <;> omega
        generalize cmpI (t m) q = cv at hcv
        have HX : Hid (∀ k, m ≤ k → k < n → q ≤ t k) := fun k h1 h2 => by
          by_cases e : k = m
          · subst e; omega
          · have := HM.out m k (by omega) (by omega); omega
        clear c0 c1 htm hme
        go_wp2_with fail
        go_roundw
        case rel => exact ⟨i, m, by omega, by omega, rfl, rfl, HL.out, HX.out, HZ.out⟩
        case measure => simp [intOf]; omega
    · obtain rfl : i = j := by omega
      clear hlo hhi hm
      by_cases hin : i < n
      · have c0 := (hbel.cell (p := ⟨b, off + i * 2, none⟩) hb).trans (hc i (by omega)).1
        have c1 := (hbel.cell (p := ⟨b, off + i * 2 + 1, none⟩) hb).trans (hc i (by omega)).2
        clear hc hbel
        go_wp2_with fail
        refine (holds1 (f i) (t i) q _).mono ?_
        rintro e w2 ⟨rfl, b2⟩
        have HZ := hid (keepS HB.out b2)
        clear b2 c0 c1
        generalize cmpI (t i) q = cv
        go_wp2_with fail
        go_ret2
        exact ⟨i, cv == 0, rfl, by omega, HL.out, HH.out, HZ.out⟩
      · clear hc hbel
        go_wp2_with fail
        go_ret2
        exact ⟨i, false, rfl, by omega, HL.out, HH.out, HB.out⟩

theorem ss_own {w : World} {B n cap g : Nat} {l : List (Int × Int)} (h : w.ownsRow B 79 2 (.slice (some ⟨g, 0, none⟩) n cap) n (spanCells l)) (hl : l.length = n) :
    SS w (some ⟨g, 0, none⟩) n (fun i => (l.getD i (0, 0)).1) (fun i => (l.getD i (0, 0)).2) := by
  refine .inr ⟨g, 0, rfl, (h.lt g rfl).2, fun i hi => ?_⟩
  have key : ∀ (l : List (Int × Int)) (i : Nat), i < l.length → (spanCells l)[i * 2]? = some (.int .i64 (l.getD i (0, 0)).1) ∧ (spanCells l)[i * 2 + 1]? = some (.int .i64 (l.getD i (0, 0)).2) := by
    intro l
    induction l with
    | nil => intro i hi; simp at hi
    | cons a l ih =>
      intro i hi
      cases i with
      | zero => simp [spanCells]
      | succ i =>
        have := ih i (by simpa using hi)
        have e : spanCells (a :: l) = .int .i64 a.1 :: .int .i64 a.2 :: spanCells l := by simp [spanCells]
        rw [e, show (i + 1) * 2 = i * 2 + 1 + 1 from by omega]
        simpa using this
  rw [Nat.zero_add, h.cellAt _ (by omega), h.cellAt _ (by omega)]
  exact key l i (by omega)

def inB (l : List (Int × Int)) (f t : Int) : Bool := l.any fun p => decide (p.1 ≤ f ∧ t ≤ p.2)

theorem srt_get {l : List (Int × Int)} (h : Srt l) {i j : Nat} (hij : i < j) (hj : j < l.length) : (l.getD i (0, 0)).2 + 1 < (l.getD j (0, 0)).1 ∧ (l.getD i (0, 0)).1 ≤ (l.getD i (0, 0)).2 ∧ (l.getD j (0, 0)).1 ≤ (l.getD j (0, 0)).2 := by
  have e1 : l.getD i (0, 0) = l[i] := by simp [List.getD, show i < l.length by omega]
  have e2 : l.getD j (0, 0) = l[j] := by simp [List.getD, hj]
  rw [e1, e2]
  exact ⟨List.pairwise_iff_getElem.1 h.1 i j (by omega) hj hij, (h.2 _ (List.getElem_mem _)).2.1, (h.2 _ (List.getElem_mem _)).2.1⟩

theorem in_iff {l : List (Int × Int)} (h : Srt l) (f t : Int) (i : Nat) (hi : i ≤ l.length) (hlo : ∀ j, j < i → (l.getD j (0, 0)).2 < t) (hhi : ∀ j, i ≤ j → j < l.length → t ≤ (l.getD j (0, 0)).2) :
    inB l f t = (decide (i < l.length) && decide ((l.getD i (0, 0)).1 ≤ f)) := by
  rw [Bool.eq_iff_iff]
  simp only [inB, List.any_eq_true, decide_eq_true_iff, Bool.and_eq_true]
  constructor
  · rintro ⟨p, hp, h1, h2⟩
    obtain ⟨j, hj, rfl⟩ := List.getElem_of_mem hp
    have e2 : l.getD j (0, 0) = l[j] := by simp [List.getD, hj]
    have hij : i ≤ j := by
      by_cases hlt : j < i
      · have := hlo j hlt; rw [e2] at this; omega
      · omega
    refine ⟨by omega, ?_⟩
    by_cases e : i = j
    · subst e; rw [e2]; exact h1
    · have := srt_get h (show i < j by omega) hj
      rw [e2] at this
      omega
  · rintro ⟨h1, h2⟩
    have e1 : l.getD i (0, 0) = l[i] := by simp [List.getD, h1]
    refine ⟨l[i], List.getElem_mem _, ?_, ?_⟩
    · rw [← e1]; exact h2
    · rw [← e1]; exact hhi i (Nat.le_refl _) h1
end Go.Proofs.Ytlibjegbmoombab
