import Derived.Test.YtakmpmhjcngbbaaGreatDoorMgg08
import Derived.Test.YtakmpmhjcngbbaaGreatDoorMgg07
set_option linter.unusedVariables false
set_option linter.unusedSimpArgs false
set_option maxRecDepth 100000
set_option maxHeartbeats 40000000
namespace Go.Proofs.YtakmpmhjcngbbaaGreatDoor
open Go.ChangeShapes Go.WideShapes Go.ChangeAt Go.RowKit Go.Maps
def cmpI (x y : Int) : Int := if x < y then -1 else if y < x then 1 else 0
theorem compare (x y : Int) (w : World) : Calls Tryz.prog 89 #[.int .i64 x, .int .i64 y] w fun e w' => e = .returned (.int .i64 (cmpI x y)) ∧ w' = w := by
  by_cases h1 : x < y
  · have HE : Hid (cmpI x y = -1) := if_pos h1
    go_enter Tryz.func89, Tryz.ntmps89
    go_wp2
    go_ret
    exact ⟨ret_int HE.out.symm, rfl⟩
  · by_cases h2 : y < x
    · have HE : Hid (cmpI x y = 1) := by unfold Hid cmpI; rw [if_neg h1, if_pos h2]
      go_enter Tryz.func89, Tryz.ntmps89
      go_wp2
      go_ret
      exact ⟨ret_int HE.out.symm, rfl⟩
    · have HE : Hid (cmpI x y = 0) := by unfold Hid cmpI; rw [if_neg h1, if_neg h2]
      go_enter Tryz.func89, Tryz.ntmps89
      go_wp2
      go_ret
      exact ⟨ret_int HE.out.symm, rfl⟩
theorem holds1 (f t q : Int) (w : World) : Calls Tryz.prog 152 #[.agg #[.int .i64 f, .int .i64 t], .int .i64 q] w fun e w' => e = .returned (.int .i64 (cmpI t q)) ∧ Below w.heap.size w w' := by
  go_enter Tryz.func152, Tryz.ntmps152
  go_wp2_with fail
  refine (compare t q _).mono ?_
  rintro e w1 ⟨rfl, rfl⟩
  go_wp2_with fail
  go_ret
  exact ⟨rfl, (Below.refl _ _).alloc (Nat.le_refl _) _⟩
theorem bsearch (a : Option Addr) (n c : Nat) (f t : Nat → Int) (q : Int) (w : World) (hn : n ≤ 1000000) (h : SS w a n f t) (hm : ∀ i j, i < j → j < n → t i < t j) :
    Calls Tryz.prog 151 #[.slice a n c, .int .i64 q, .func (.func 152) #[] #[]] w fun e w' => ∃ (i : Nat) (b : Bool), e = .returned (.tuple #[.int .i64 i, .bool b]) ∧ i ≤ n ∧ (∀ j, j < i → t j < q) ∧ (∀ j, i ≤ j → j < n → q ≤ t j) ∧ Below w.heap.size w w' := by
  go_enter Tryz.func151, Tryz.ntmps151
  go_wp2_with fail
  go_loopw [9, 10] (fun vi vj wr => ∃ i j : Nat, i ≤ j ∧ j ≤ n ∧ vi = .int .i64 i ∧ vj = .int .i64 j ∧ (∀ k, k < i → t k < q) ∧ (∀ k, j ≤ k → k < n → q ≤ t k) ∧ Below w.heap.size w wr) (fun vi vj _ => (intOf vj).toNat - (intOf vi).toNat)
  case atStart => exact ⟨0, n, Nat.zero_le _, Nat.le_refl _, rfl, rfl, fun k hk => by omega, fun k h1 h2 => by omega, Below.refl _ _⟩
  case round =>
    obtain ⟨i, j, hij, hjn, rfl, rfl, hlo, hhi, hbel⟩ := hrel
    have HL := hid hlo
    have HH := hid hhi
    have HM := hid hm
    have HB := hid hbel
    rcases h with h | ⟨b, off, rfl, hb, hc⟩
    · have hi0 : i = 0 := by omega
      have hj0 : j = 0 := by omega
      subst h hi0 hj0
      clear hlo hhi hbel hm
      go_wp2_with fail
      go_ret2
      exact ⟨0, false, rfl, by omega, fun k hk => by omega, fun k _ hk => by omega, HB.out⟩
    by_cases hlt : i < j
    · obtain ⟨m, hmd⟩ : ∃ m : Nat, m = (i + j) / 2 := ⟨_, rfl⟩
      have hme : ((i : Int) + (j : Int)) / 2 = (m : Int) := by omega
      have c0 := (hbel.cell (p := ⟨b, off + m * 2, none⟩) hb).trans (hc m (by omega)).1
      have c1 := (hbel.cell (p := ⟨b, off + m * 2 + 1, none⟩) hb).trans (hc m (by omega)).2
      have hmi : i ≤ m := by omega
      have hmj : m < j := by omega
      clear hlo hhi hbel hm hc hmd
      go_wp2_with fail
      refine (holds1 (f m) (t m) q _).mono ?_
      rintro e w2 ⟨rfl, b2⟩
      have HZ := hid (keepS HB.out b2)
      clear b2
      by_cases htm : t m < q
      · rw [show cmpI (t m) q = -1 from if_pos htm]
        have HX : Hid (∀ k, k < m + 1 → t k < q) := fun k hk => by
          by_cases e : k = m
          · subst e; exact htm
          · have := HM.out k m (by omega) (by omega); omega
        clear c0 c1 htm hme
        go_wp2_with fail
        go_roundw
        case rel => exact ⟨m + 1, j, by omega, hjn, by go_num, rfl, HX.out, HH.out, HZ.out⟩
        case measure => simp [intOf]; omega
      · have hcv : 0 ≤ cmpI (t m) q := by unfold cmpI; rw [if_neg htm]; split <;> omega
        generalize cmpI (t m) q = cv at hcv
        have HX : Hid (∀ k, m ≤ k → k < n → q ≤ t k) := fun k h1 h2 => by
          by_cases e : k = m
          · subst e; omega
          · have := HM.out m k (by omega) (by omega); omega
        clear c0 c1 htm hme
        go_wp2_with fail
        go_roundw
        case rel => exact ⟨i, m, by omega, by omega, rfl, rfl, HL.out, HX.out, HZ.out⟩
        case measure => simp [intOf]; omega
    · obtain rfl : i = j := by omega
      clear hlo hhi hm
      by_cases hin : i < n
      · have c0 := (hbel.cell (p := ⟨b, off + i * 2, none⟩) hb).trans (hc i (by omega)).1
        have c1 := (hbel.cell (p := ⟨b, off + i * 2 + 1, none⟩) hb).trans (hc i (by omega)).2
        clear hc hbel
        go_wp2_with fail
        refine (holds1 (f i) (t i) q _).mono ?_
        rintro e w2 ⟨rfl, b2⟩
        have HZ := hid (keepS HB.out b2)
        clear b2 c0 c1
        generalize cmpI (t i) q = cv
        go_wp2_with fail
        go_ret2
        exact ⟨i, cv == 0, rfl, by omega, HL.out, HH.out, HZ.out⟩
      · clear hc hbel
        go_wp2_with fail
        go_ret2
        exact ⟨i, false, rfl, by omega, HL.out, HH.out, HB.out⟩
def inB (l : List (Int × Int)) (f t : Int) : Bool := l.any fun p => decide (p.1 ≤ f ∧ t ≤ p.2)
theorem in_iff {l : List (Int × Int)} (h : Srt l) (f t : Int) (i : Nat) (hi : i ≤ l.length) (hlo : ∀ j, j < i → (l.getD j (0, 0)).2 < t) (hhi : ∀ j, i ≤ j → j < l.length → t ≤ (l.getD j (0, 0)).2) :
    inB l f t = (decide (i < l.length) && decide ((l.getD i (0, 0)).1 ≤ f)) := by
  rw [Bool.eq_iff_iff]
  simp only [inB, List.any_eq_true, decide_eq_true_iff, Bool.and_eq_true]
  constructor
  · rintro ⟨p, hp, h1, h2⟩
    obtain ⟨j, hj, rfl⟩ := List.getElem_of_mem hp
    have e2 : l.getD j (0, 0) = l[j] := by simp [List.getD, hj]
    have hij : i ≤ j := by
      by_cases hlt : j < i
      · have := hlo j hlt; rw [e2] at this; omega
      · omega
    refine ⟨by omega, ?_⟩
    by_cases e : i = j
    · subst e; rw [e2]; exact h1
    · have := srt_get h (show i < j by omega) hj
      rw [e2] at this
      omega
  · rintro ⟨h1, h2⟩
    have e1 : l.getD i (0, 0) = l[i] := by simp [List.getD, h1]
    refine ⟨l[i], List.getElem_mem _, ?_, ?_⟩
    · rw [← e1]; exact h2
    · rw [← e1]; exact hhi i (Nat.le_refl _) h1
def hasK (R F T : Nat → Int) (r f t : Int) : Nat → Bool
  | 0 => false
  | k + 1 => hasK R F T r f t k || decide (R k = r ∧ F k ≤ f ∧ t ≤ T k)
theorem in_hasK (R F T : Nat → Int) (r f t : Int) (k : Nat) : inB (Lk R F T k r) f t = hasK R F T r f t k := by
  induction k with
  | zero => rfl
  | succ k ih =>
    show inB (upd (Lk R F T k) (R k) (Lk R F T k (R k) ++ [(F k, T k)]) r) f t = (hasK R F T r f t k || decide (R k = r ∧ F k ≤ f ∧ t ≤ T k))
    by_cases e : r = R k
    · subst e
      rw [upd_same, ← ih]
      simp [inB]
    · rw [upd_other _ _ e, ih]
      have : decide (R k = r ∧ F k ≤ f ∧ t ≤ T k) = false := by simp; intro h; exact absurd h.symm e
      rw [this]; simp
theorem hasK_yes {R F T : Nat → Int} {r f t : Int} {k n : Nat} (hk : k < n) (h : R k = r ∧ F k ≤ f ∧ t ≤ T k) : hasK R F T r f t n = true := by
  induction n with
  | zero => omega
  | succ n ih =>
    simp only [hasK, Bool.or_eq_true, decide_eq_true_iff]
    by_cases e : k = n
    · subst e; exact .inr h
    · exact .inl (ih (by omega))
theorem hasK_step {R F T : Nat → Int} {r f t : Int} {k : Nat} (h : hasK R F T r f t k = false) (h2 : ¬ (R k = r ∧ F k ≤ f ∧ t ≤ T k)) : hasK R F T r f t (k + 1) = false := by
  simp only [hasK, h, Bool.false_or, decide_eq_false_iff_not]; exact h2
theorem l2Has (a : Option Addr) (n c : Nat) (R F T : Nat → Int) (r q : Int) (w : World) (hn : n ≤ 1048576) (h : RSeg w a n R F T) :
    Calls Tryz.prog 43 #[.agg #[.slice a n c], .agg #[.int .i64 r, .int .i64 q]] w fun e w' => e = .returned (.bool (hasK R F T r q q n)) ∧ Below w.heap.size w w' := by
  obtain ⟨W0, hW0⟩ : ∃ W0, (w.alloc (.cells #[.slice a n c] 26)).alloc (.cells #[.int .i64 r, .int .i64 q] 87) = W0 := ⟨_, rfl⟩
  have bW : Below w.heap.size w W0 := by rw [← hW0]; exact below2 _ _ _
  have hbox : W0.cell? ⟨w.heap.size, 0, none⟩ = some (.slice a n c) := by rw [← hW0]; simp
  have x0 : W0.cell? ⟨w.heap.size + 1, 0, none⟩ = some (.int .i64 r) := by rw [← hW0]; simp
  have x1 : W0.cell? ⟨w.heap.size + 1, 1, none⟩ = some (.int .i64 q) := by rw [← hW0]; simp
  have zW : W0.heap.size = w.heap.size + 2 := by rw [← hW0]; simp
  have h1 := h.below bW
  clear h
  go_enter Tryz.func43, Tryz.ntmps43
  go_wp2_with fail
  try rw [hW0]
  clear hW0
  go_loopw [5] (fun i wr => ∃ k : Nat, k ≤ n ∧ i = .int .i64 k ∧ hasK R F T r q q k = false ∧ Below W0.heap.size W0 wr) (fun i _ => n - (intOf i).toNat)
  case atStart => exact ⟨0, Nat.zero_le _, rfl, rfl, Below.refl _ _⟩
  case round =>
    obtain ⟨k, hk, rfl, hno, hbel⟩ := hrel
    have b0 := (hbel.cell (p := ⟨w.heap.size, 0, none⟩) (show w.heap.size < W0.heap.size by omega)).trans hbox
    have y0 := (hbel.cell (p := ⟨w.heap.size + 1, 0, none⟩) (show w.heap.size + 1 < W0.heap.size by omega)).trans x0
    have y1 := (hbel.cell (p := ⟨w.heap.size + 1, 1, none⟩) (show w.heap.size + 1 < W0.heap.size by omega)).trans x1
    have HB := hid hbel
    have HN := hid hno
    by_cases hlt : k < n
    · rcases h1 with h1 | ⟨b, off, rfl, hb, hc⟩
      · omega
      have c0 := (hbel.cell (p := ⟨b, off + k * 3, none⟩) hb).trans (hc k hlt).1
      have c1 := (hbel.cell (p := ⟨b, off + k * 3 + 1, none⟩) hb).trans (hc k hlt).2.1
      have c2 := (hbel.cell (p := ⟨b, off + k * 3 + 2, none⟩) hb).trans (hc k hlt).2.2
      have hk0 : (0 : Int) ≤ (k : Int) := Int.natCast_nonneg _
      have hk1 : (k : Int) < (n : Int) := by omega
      clear hc hbel hno hbox x0 x1
      by_cases e1 : R k = r
      · have t1 : (R k == r) = true := by simp; exact e1
        have H1 := hid e1
        clear e1
        by_cases e2 : F k ≤ q
        · have t2 : decide (F k ≤ q) = true := by simp; exact e2
          have H2 := hid e2
          clear e2
          by_cases e3 : q ≤ T k
          · have t3 : decide (q ≤ T k) = true := by simp; exact e3
            have H3 := hid (hasK_yes (n := n) hlt ⟨H1.out, H2.out, e3⟩)
            clear e3
            go_wp2_with fail
            refine wp_region_held_drew (S := fun w' => w'.cell? ⟨w.heap.size, 0, none⟩ = some (.slice (some ⟨b, off, none⟩) n c) ∧ w'.cell? ⟨w.heap.size + 1, 0, none⟩ = some (.int .i64 r) ∧ w'.cell? ⟨w.heap.size + 1, 1, none⟩ = some (.int .i64 q) ∧ w'.cell? ⟨b, off + k * 3, none⟩ = some (.int .i64 (R k)) ∧ w'.cell? ⟨b, off + k * 3 + 1, none⟩ = some (.int .i64 (F k)) ∧ w'.cell? ⟨b, off + k * 3 + 2, none⟩ = some (.int .i64 (T k))) (by kernel_rfl) ⟨b0, y0, y1, c0, c1, c2⟩ (fun hHeld => ?_)
            refine tk 0 13 ?_ (by kernel_rfl) (fun _ _ _ h => h) ?_ hHeld (tk 1 14 ?_ (by kernel_rfl) (fun _ _ _ h => h) ?_ hHeld (tk 2 15 ?_ (by kernel_rfl) (fun _ _ _ h => h) ?_ hHeld (tk 3 16 ?_ (by kernel_rfl) (fun _ _ _ h => h) ?_ hHeld ?_)))
            iterate 4 (rotate_left; focus (intro o ho; simp only [gZa, gZb, gZc, gZd] at ho; subst ho; refine Or.inl ⟨by rfl, ?_⟩; intro w hSw; (try dsimp only at hSw); (try simp only [Act.put, sZa, sZb, sZc]); go_simp; try with_reducible rfl))
            try simp only [Act.put, sZa, sZb, sZc]
            refine tk 4 17 ?_ (by kernel_rfl) (fun _ _ _ h => h) ?_ hHeld (tk 5 18 ?_ (by kernel_rfl) (fun _ _ _ h => h) ?_ hHeld (tk 6 19 ?_ (by kernel_rfl) (fun _ _ _ h => h) ?_ hHeld (tk 7 20 ?_ (by kernel_rfl) (fun _ _ _ h => h) ?_ hHeld ?_)))
            iterate 4 (rotate_left; focus (intro o ho; simp only [gZa, gZb, gZc, gZd] at ho; subst ho; refine Or.inl ⟨by rfl, ?_⟩; intro w hSw; (try dsimp only at hSw); (try simp only [Act.put, sZa, sZb, sZc]); go_simp; try with_reducible rfl))
            try simp only [Act.put, sZa, sZb, sZc]
            refine tk 8 21 ?_ (by kernel_rfl) (fun _ _ _ h => h) ?_ hHeld (tk 9 22 ?_ (by kernel_rfl) (fun _ _ _ h => h) ?_ hHeld (tk 10 23 ?_ (by kernel_rfl) (fun _ _ _ h => h) ?_ hHeld (tk 11 24 ?_ (by kernel_rfl) (fun _ _ _ h => h) ?_ hHeld ?_)))
            iterate 4 (rotate_left; focus (intro o ho; simp only [gZa, gZb, gZc, gZd] at ho; subst ho; refine Or.inl ⟨by rfl, ?_⟩; intro w hSw; (try dsimp only at hSw); (try simp only [Act.put, sZa, sZb, sZc]); go_simp; try with_reducible rfl))
            try simp only [Act.put, sZa, sZb, sZc]
            refine tk 12 25 ?_ (by kernel_rfl) (fun _ _ _ h => h) ?_ hHeld (tk 13 26 ?_ (by kernel_rfl) (fun _ _ _ h => h) ?_ hHeld (tk 14 27 ?_ (by kernel_rfl) (fun _ _ _ h => h) ?_ hHeld (tk 15 28 ?_ (by kernel_rfl) (fun _ _ _ h => h) ?_ hHeld ?_)))
            iterate 4 (rotate_left; focus (intro o ho; simp only [gZa, gZb, gZc, gZd] at ho; subst ho; refine Or.inl ⟨by rfl, ?_⟩; intro w hSw; (try dsimp only at hSw); (try simp only [Act.put, sZa, sZb, sZc]); go_simp; try with_reducible rfl))
            try simp only [Act.put, sZa, sZb, sZc]
            refine tk 16 29 ?_ (by kernel_rfl) (fun _ _ _ h => h) ?_ hHeld (tk 17 30 ?_ (by kernel_rfl) (fun _ _ _ h => h) ?_ hHeld (tk 18 31 ?_ (by kernel_rfl) (fun _ _ _ h => h) ?_ hHeld (tk 19 32 ?_ (by kernel_rfl) (fun _ _ _ h => h) ?_ hHeld ?_)))
            iterate 4 (rotate_left; focus (intro o ho; simp only [gZa, gZb, gZc, gZd] at ho; subst ho; refine Or.inl ⟨by rfl, ?_⟩; intro w hSw; (try dsimp only at hSw); (try simp only [Act.put, sZa, sZb, sZc]); go_simp; try with_reducible rfl))
            try simp only [Act.put, sZa, sZb, sZc]
            refine tk 20 33 ?_ (by kernel_rfl) (fun _ _ _ h => h) ?_ hHeld (tk 21 34 ?_ (by kernel_rfl) (fun _ _ _ h => h) ?_ hHeld (tk 22 35 ?_ (by kernel_rfl) (fun _ _ _ h => h) ?_ hHeld (tk 23 36 ?_ (by kernel_rfl) (fun _ _ _ h => h) ?_ hHeld ?_)))
            iterate 4 (rotate_left; focus (intro o ho; simp only [gZa, gZb, gZc, gZd] at ho; subst ho; refine Or.inl ⟨by rfl, ?_⟩; intro w hSw; (try dsimp only at hSw); (try simp only [Act.put, sZa, sZb, sZc]); go_simp; try with_reducible rfl))
            try simp only [Act.put, sZa, sZb, sZc]
            refine tk 24 37 ?_ (by kernel_rfl) (fun _ _ _ h => h) ?_ hHeld (tk 25 38 ?_ (by kernel_rfl) (fun _ _ _ h => h) ?_ hHeld (tk 26 39 ?_ (by kernel_rfl) (fun _ _ _ h => h) ?_ hHeld (tk 27 40 ?_ (by kernel_rfl) (fun _ _ _ h => h) ?_ hHeld ?_)))
            iterate 4 (rotate_left; focus (intro o ho; simp only [gZa, gZb, gZc, gZd] at ho; subst ho; refine Or.inl ⟨by rfl, ?_⟩; intro w hSw; (try dsimp only at hSw); (try simp only [Act.put, sZa, sZb, sZc]); go_simp; try with_reducible rfl))
            try simp only [Act.put, sZa, sZb, sZc]
            refine tk 28 41 ?_ (by kernel_rfl) (fun _ _ _ h => h) ?_ hHeld (tk 29 42 ?_ (by kernel_rfl) (fun _ _ _ h => h) ?_ hHeld (tk 30 43 ?_ (by kernel_rfl) (fun _ _ _ h => h) ?_ hHeld ?_))
            iterate 3 (rotate_left; focus (intro o ho; simp only [gZa, gZb, gZc, gZd] at ho; subst ho; refine Or.inl ⟨by rfl, ?_⟩; intro w hSw; (try dsimp only at hSw); (try simp only [Act.put, sZa, sZb, sZc]); go_simp; try with_reducible rfl))
            try simp only [Act.put, sZa, sZb, sZc]
            refine wpAnyH_done (by kernel_rfl) ?_ _
            go_wp2_with fail
            go_ret
            exact ⟨retB H3.out.symm, (bW.trans (HB.out.mono (by omega))).drew⟩
          · have t3 : decide (q ≤ T k) = false := by simp; omega
            have H3 := hid (hasK_step HN.out (fun hh => e3 hh.2.2))
            clear e3
            go_wp2_with fail
            refine wp_region_held_drew (S := fun w' => w'.cell? ⟨w.heap.size, 0, none⟩ = some (.slice (some ⟨b, off, none⟩) n c) ∧ w'.cell? ⟨w.heap.size + 1, 0, none⟩ = some (.int .i64 r) ∧ w'.cell? ⟨w.heap.size + 1, 1, none⟩ = some (.int .i64 q) ∧ w'.cell? ⟨b, off + k * 3, none⟩ = some (.int .i64 (R k)) ∧ w'.cell? ⟨b, off + k * 3 + 1, none⟩ = some (.int .i64 (F k)) ∧ w'.cell? ⟨b, off + k * 3 + 2, none⟩ = some (.int .i64 (T k))) (by kernel_rfl) ⟨b0, y0, y1, c0, c1, c2⟩ (fun hHeld => ?_)
            refine tk 0 13 ?_ (by kernel_rfl) (fun _ _ _ h => h) ?_ hHeld (tk 1 14 ?_ (by kernel_rfl) (fun _ _ _ h => h) ?_ hHeld (tk 2 15 ?_ (by kernel_rfl) (fun _ _ _ h => h) ?_ hHeld (tk 3 16 ?_ (by kernel_rfl) (fun _ _ _ h => h) ?_ hHeld ?_)))
            iterate 4 (rotate_left; focus (intro o ho; simp only [gZa, gZb, gZc, gZd] at ho; subst ho; refine Or.inl ⟨by rfl, ?_⟩; intro w hSw; (try dsimp only at hSw); (try simp only [Act.put, sZa, sZb, sZc]); go_simp; try with_reducible rfl))
            try simp only [Act.put, sZa, sZb, sZc]
            refine tk 4 17 ?_ (by kernel_rfl) (fun _ _ _ h => h) ?_ hHeld (tk 5 18 ?_ (by kernel_rfl) (fun _ _ _ h => h) ?_ hHeld (tk 6 19 ?_ (by kernel_rfl) (fun _ _ _ h => h) ?_ hHeld (tk 7 20 ?_ (by kernel_rfl) (fun _ _ _ h => h) ?_ hHeld ?_)))
            iterate 4 (rotate_left; focus (intro o ho; simp only [gZa, gZb, gZc, gZd] at ho; subst ho; refine Or.inl ⟨by rfl, ?_⟩; intro w hSw; (try dsimp only at hSw); (try simp only [Act.put, sZa, sZb, sZc]); go_simp; try with_reducible rfl))
            try simp only [Act.put, sZa, sZb, sZc]
            refine tk 8 21 ?_ (by kernel_rfl) (fun _ _ _ h => h) ?_ hHeld (tk 9 22 ?_ (by kernel_rfl) (fun _ _ _ h => h) ?_ hHeld (tk 10 23 ?_ (by kernel_rfl) (fun _ _ _ h => h) ?_ hHeld (tk 11 24 ?_ (by kernel_rfl) (fun _ _ _ h => h) ?_ hHeld ?_)))
            iterate 4 (rotate_left; focus (intro o ho; simp only [gZa, gZb, gZc, gZd] at ho; subst ho; refine Or.inl ⟨by rfl, ?_⟩; intro w hSw; (try dsimp only at hSw); (try simp only [Act.put, sZa, sZb, sZc]); go_simp; try with_reducible rfl))
            try simp only [Act.put, sZa, sZb, sZc]
            refine tk 12 25 ?_ (by kernel_rfl) (fun _ _ _ h => h) ?_ hHeld (tk 13 26 ?_ (by kernel_rfl) (fun _ _ _ h => h) ?_ hHeld (tk 14 27 ?_ (by kernel_rfl) (fun _ _ _ h => h) ?_ hHeld (tk 15 28 ?_ (by kernel_rfl) (fun _ _ _ h => h) ?_ hHeld ?_)))
            iterate 4 (rotate_left; focus (intro o ho; simp only [gZa, gZb, gZc, gZd] at ho; subst ho; refine Or.inl ⟨by rfl, ?_⟩; intro w hSw; (try dsimp only at hSw); (try simp only [Act.put, sZa, sZb, sZc]); go_simp; try with_reducible rfl))
            try simp only [Act.put, sZa, sZb, sZc]
            refine tk 16 29 ?_ (by kernel_rfl) (fun _ _ _ h => h) ?_ hHeld (tk 17 30 ?_ (by kernel_rfl) (fun _ _ _ h => h) ?_ hHeld (tk 18 31 ?_ (by kernel_rfl) (fun _ _ _ h => h) ?_ hHeld (tk 19 32 ?_ (by kernel_rfl) (fun _ _ _ h => h) ?_ hHeld ?_)))
            iterate 4 (rotate_left; focus (intro o ho; simp only [gZa, gZb, gZc, gZd] at ho; subst ho; refine Or.inl ⟨by rfl, ?_⟩; intro w hSw; (try dsimp only at hSw); (try simp only [Act.put, sZa, sZb, sZc]); go_simp; try with_reducible rfl))
            try simp only [Act.put, sZa, sZb, sZc]
            refine tk 20 33 ?_ (by kernel_rfl) (fun _ _ _ h => h) ?_ hHeld (tk 21 34 ?_ (by kernel_rfl) (fun _ _ _ h => h) ?_ hHeld (tk 22 35 ?_ (by kernel_rfl) (fun _ _ _ h => h) ?_ hHeld (tk 23 36 ?_ (by kernel_rfl) (fun _ _ _ h => h) ?_ hHeld ?_)))
            iterate 4 (rotate_left; focus (intro o ho; simp only [gZa, gZb, gZc, gZd] at ho; subst ho; refine Or.inl ⟨by rfl, ?_⟩; intro w hSw; (try dsimp only at hSw); (try simp only [Act.put, sZa, sZb, sZc]); go_simp; try with_reducible rfl))
            try simp only [Act.put, sZa, sZb, sZc]
            refine tk 24 37 ?_ (by kernel_rfl) (fun _ _ _ h => h) ?_ hHeld (tk 25 38 ?_ (by kernel_rfl) (fun _ _ _ h => h) ?_ hHeld (tk 26 39 ?_ (by kernel_rfl) (fun _ _ _ h => h) ?_ hHeld (tk 27 40 ?_ (by kernel_rfl) (fun _ _ _ h => h) ?_ hHeld ?_)))
            iterate 4 (rotate_left; focus (intro o ho; simp only [gZa, gZb, gZc, gZd] at ho; subst ho; refine Or.inl ⟨by rfl, ?_⟩; intro w hSw; (try dsimp only at hSw); (try simp only [Act.put, sZa, sZb, sZc]); go_simp; try with_reducible rfl))
            try simp only [Act.put, sZa, sZb, sZc]
            refine tk 28 41 ?_ (by kernel_rfl) (fun _ _ _ h => h) ?_ hHeld (tk 29 42 ?_ (by kernel_rfl) (fun _ _ _ h => h) ?_ hHeld (tk 30 43 ?_ (by kernel_rfl) (fun _ _ _ h => h) ?_ hHeld ?_))
            iterate 3 (rotate_left; focus (intro o ho; simp only [gZa, gZb, gZc, gZd] at ho; subst ho; refine Or.inl ⟨by rfl, ?_⟩; intro w hSw; (try dsimp only at hSw); (try simp only [Act.put, sZa, sZb, sZc]); go_simp; try with_reducible rfl))
            try simp only [Act.put, sZa, sZb, sZc]
            refine wpAnyH_done (by kernel_rfl) ?_ _
            go_wp2_with fail
            go_roundw
            case rel => exact ⟨k + 1, hlt, by go_num, H3.out, HB.out.drew⟩
            case measure => simp [intOf]; omega
        · have t2 : decide (F k ≤ q) = false := by simp; omega
          have H3 := hid (hasK_step HN.out (fun hh => e2 hh.2.1))
          clear e2
          go_wp2_with fail
          refine wp_region_held_drew (S := fun w' => w'.cell? ⟨w.heap.size, 0, none⟩ = some (.slice (some ⟨b, off, none⟩) n c) ∧ w'.cell? ⟨w.heap.size + 1, 0, none⟩ = some (.int .i64 r) ∧ w'.cell? ⟨w.heap.size + 1, 1, none⟩ = some (.int .i64 q) ∧ w'.cell? ⟨b, off + k * 3, none⟩ = some (.int .i64 (R k)) ∧ w'.cell? ⟨b, off + k * 3 + 1, none⟩ = some (.int .i64 (F k)) ∧ w'.cell? ⟨b, off + k * 3 + 2, none⟩ = some (.int .i64 (T k))) (by kernel_rfl) ⟨b0, y0, y1, c0, c1, c2⟩ (fun hHeld => ?_)
          refine tk 0 13 ?_ (by kernel_rfl) (fun _ _ _ h => h) ?_ hHeld (tk 1 14 ?_ (by kernel_rfl) (fun _ _ _ h => h) ?_ hHeld (tk 2 15 ?_ (by kernel_rfl) (fun _ _ _ h => h) ?_ hHeld (tk 3 16 ?_ (by kernel_rfl) (fun _ _ _ h => h) ?_ hHeld ?_)))
          iterate 4 (rotate_left; focus (intro o ho; simp only [gZa, gZb, gZc, gZd] at ho; subst ho; refine Or.inl ⟨by rfl, ?_⟩; intro w hSw; (try dsimp only at hSw); (try simp only [Act.put, sZa, sZb, sZc]); go_simp; try with_reducible rfl))
          try simp only [Act.put, sZa, sZb, sZc]
          refine tk 4 17 ?_ (by kernel_rfl) (fun _ _ _ h => h) ?_ hHeld (tk 5 18 ?_ (by kernel_rfl) (fun _ _ _ h => h) ?_ hHeld (tk 6 19 ?_ (by kernel_rfl) (fun _ _ _ h => h) ?_ hHeld (tk 7 20 ?_ (by kernel_rfl) (fun _ _ _ h => h) ?_ hHeld ?_)))
          iterate 4 (rotate_left; focus (intro o ho; simp only [gZa, gZb, gZc, gZd] at ho; subst ho; refine Or.inl ⟨by rfl, ?_⟩; intro w hSw; (try dsimp only at hSw); (try simp only [Act.put, sZa, sZb, sZc]); go_simp; try with_reducible rfl))
          try simp only [Act.put, sZa, sZb, sZc]
          refine tk 8 21 ?_ (by kernel_rfl) (fun _ _ _ h => h) ?_ hHeld (tk 9 22 ?_ (by kernel_rfl) (fun _ _ _ h => h) ?_ hHeld (tk 10 23 ?_ (by kernel_rfl) (fun _ _ _ h => h) ?_ hHeld (tk 11 24 ?_ (by kernel_rfl) (fun _ _ _ h => h) ?_ hHeld ?_)))
          iterate 4 (rotate_left; focus (intro o ho; simp only [gZa, gZb, gZc, gZd] at ho; subst ho; refine Or.inl ⟨by rfl, ?_⟩; intro w hSw; (try dsimp only at hSw); (try simp only [Act.put, sZa, sZb, sZc]); go_simp; try with_reducible rfl))
          try simp only [Act.put, sZa, sZb, sZc]
          refine tk 12 25 ?_ (by kernel_rfl) (fun _ _ _ h => h) ?_ hHeld (tk 13 26 ?_ (by kernel_rfl) (fun _ _ _ h => h) ?_ hHeld (tk 14 27 ?_ (by kernel_rfl) (fun _ _ _ h => h) ?_ hHeld (tk 15 28 ?_ (by kernel_rfl) (fun _ _ _ h => h) ?_ hHeld ?_)))
          iterate 4 (rotate_left; focus (intro o ho; simp only [gZa, gZb, gZc, gZd] at ho; subst ho; refine Or.inl ⟨by rfl, ?_⟩; intro w hSw; (try dsimp only at hSw); (try simp only [Act.put, sZa, sZb, sZc]); go_simp; try with_reducible rfl))
          try simp only [Act.put, sZa, sZb, sZc]
          refine tk 16 29 ?_ (by kernel_rfl) (fun _ _ _ h => h) ?_ hHeld (tk 17 30 ?_ (by kernel_rfl) (fun _ _ _ h => h) ?_ hHeld (tk 18 31 ?_ (by kernel_rfl) (fun _ _ _ h => h) ?_ hHeld (tk 19 32 ?_ (by kernel_rfl) (fun _ _ _ h => h) ?_ hHeld ?_)))
          iterate 4 (rotate_left; focus (intro o ho; simp only [gZa, gZb, gZc, gZd] at ho; subst ho; refine Or.inl ⟨by rfl, ?_⟩; intro w hSw; (try dsimp only at hSw); (try simp only [Act.put, sZa, sZb, sZc]); go_simp; try with_reducible rfl))
          try simp only [Act.put, sZa, sZb, sZc]
          refine tk 20 33 ?_ (by kernel_rfl) (fun _ _ _ h => h) ?_ hHeld ?_
          rotate_left
          · (intro o ho; simp only [gZa, gZb, gZc, gZd] at ho; subst ho; refine Or.inl ⟨by rfl, ?_⟩; intro w hSw; (try dsimp only at hSw); go_simp; try with_reducible rfl)
          try simp only [Act.put, sZa, sZb, sZc]
          refine tk 21 34 undef (by kernel_rfl) (fun _ _ _ h => h) ?_ hHeld (tk 22 35 undef (by kernel_rfl) (fun _ _ _ h => h) ?_ hHeld (tk 23 36 undef (by kernel_rfl) (fun _ _ _ h => h) ?_ hHeld (tk 24 37 undef (by kernel_rfl) (fun _ _ _ h => h) ?_ hHeld ?_)))
          iterate 4 (focus (intro o ho; simp only [gZa, gZb, gZc, gZd] at ho; subst ho; (try simp only [Act.put, sZa, sZb, sZc]); exact Or.inr ⟨by rfl, rfl⟩))
          try simp only [Act.put, sZa, sZb, sZc]
          refine tk 25 38 undef (by kernel_rfl) (fun _ _ _ h => h) ?_ hHeld (tk 26 39 undef (by kernel_rfl) (fun _ _ _ h => h) ?_ hHeld (tk 27 40 undef (by kernel_rfl) (fun _ _ _ h => h) ?_ hHeld (tk 28 41 undef (by kernel_rfl) (fun _ _ _ h => h) ?_ hHeld ?_)))
          iterate 4 (focus (intro o ho; simp only [gZa, gZb, gZc, gZd] at ho; subst ho; (try simp only [Act.put, sZa, sZb, sZc]); exact Or.inr ⟨by rfl, rfl⟩))
          try simp only [Act.put, sZa, sZb, sZc]
          refine tk 29 42 undef (by kernel_rfl) (fun _ _ _ h => h) ?_ hHeld ?_
          · (intro o ho; simp only [gZa, gZb, gZc, gZd] at ho; subst ho; exact Or.inr ⟨by rfl, rfl⟩)
          try simp only [Act.put, sZa, sZb, sZc]
          refine tk 30 43 ?_ (by kernel_rfl) (fun _ _ _ h => h) ?_ hHeld ?_
          rotate_left
          · (intro o ho; simp only [gZa, gZb, gZc, gZd] at ho; subst ho; refine Or.inl ⟨by rfl, ?_⟩; intro w hSw; (try dsimp only at hSw); go_simp; try with_reducible rfl)
          try simp only [Act.put, sZa, sZb, sZc]
          refine wpAnyH_done (by kernel_rfl) ?_ _
          go_wp2_with fail
          go_roundw
          case rel => exact ⟨k + 1, hlt, by go_num, H3.out, HB.out.drew⟩
          case measure => simp [intOf]; omega
      · have t1 : (R k == r) = false := by simp; exact e1
        have H3 := hid (hasK_step HN.out (fun hh => e1 hh.1))
        clear e1
        go_wp2_with fail
        refine wp_region_held_drew (S := fun w' => w'.cell? ⟨w.heap.size, 0, none⟩ = some (.slice (some ⟨b, off, none⟩) n c) ∧ w'.cell? ⟨w.heap.size + 1, 0, none⟩ = some (.int .i64 r) ∧ w'.cell? ⟨w.heap.size + 1, 1, none⟩ = some (.int .i64 q) ∧ w'.cell? ⟨b, off + k * 3, none⟩ = some (.int .i64 (R k)) ∧ w'.cell? ⟨b, off + k * 3 + 1, none⟩ = some (.int .i64 (F k)) ∧ w'.cell? ⟨b, off + k * 3 + 2, none⟩ = some (.int .i64 (T k))) (by kernel_rfl) ⟨b0, y0, y1, c0, c1, c2⟩ (fun hHeld => ?_)
        refine tk 0 13 ?_ (by kernel_rfl) (fun _ _ _ h => h) ?_ hHeld (tk 1 14 ?_ (by kernel_rfl) (fun _ _ _ h => h) ?_ hHeld (tk 2 15 ?_ (by kernel_rfl) (fun _ _ _ h => h) ?_ hHeld (tk 3 16 ?_ (by kernel_rfl) (fun _ _ _ h => h) ?_ hHeld ?_)))
        iterate 4 (rotate_left; focus (intro o ho; simp only [gZa, gZb, gZc, gZd] at ho; subst ho; refine Or.inl ⟨by rfl, ?_⟩; intro w hSw; (try dsimp only at hSw); (try simp only [Act.put, sZa, sZb, sZc]); go_simp; try with_reducible rfl))
        try simp only [Act.put, sZa, sZb, sZc]
        refine tk 4 17 ?_ (by kernel_rfl) (fun _ _ _ h => h) ?_ hHeld (tk 5 18 ?_ (by kernel_rfl) (fun _ _ _ h => h) ?_ hHeld (tk 6 19 ?_ (by kernel_rfl) (fun _ _ _ h => h) ?_ hHeld (tk 7 20 ?_ (by kernel_rfl) (fun _ _ _ h => h) ?_ hHeld ?_)))
        iterate 4 (rotate_left; focus (intro o ho; simp only [gZa, gZb, gZc, gZd] at ho; subst ho; refine Or.inl ⟨by rfl, ?_⟩; intro w hSw; (try dsimp only at hSw); (try simp only [Act.put, sZa, sZb, sZc]); go_simp; try with_reducible rfl))
        try simp only [Act.put, sZa, sZb, sZc]
        refine tk 8 21 ?_ (by kernel_rfl) (fun _ _ _ h => h) ?_ hHeld (tk 9 22 ?_ (by kernel_rfl) (fun _ _ _ h => h) ?_ hHeld ?_)
        iterate 2 (rotate_left; focus (intro o ho; simp only [gZa, gZb, gZc, gZd] at ho; subst ho; refine Or.inl ⟨by rfl, ?_⟩; intro w hSw; (try dsimp only at hSw); (try simp only [Act.put, sZa, sZb, sZc]); go_simp; try with_reducible rfl))
        try simp only [Act.put, sZa, sZb, sZc]
        refine tk 10 23 undef (by kernel_rfl) (fun _ _ _ h => h) ?_ hHeld (tk 11 24 undef (by kernel_rfl) (fun _ _ _ h => h) ?_ hHeld (tk 12 25 undef (by kernel_rfl) (fun _ _ _ h => h) ?_ hHeld (tk 13 26 undef (by kernel_rfl) (fun _ _ _ h => h) ?_ hHeld ?_)))
        iterate 4 (focus (intro o ho; simp only [gZa, gZb, gZc, gZd] at ho; subst ho; (try simp only [Act.put, sZa, sZb, sZc]); exact Or.inr ⟨by rfl, rfl⟩))
        try simp only [Act.put, sZa, sZb, sZc]
        refine tk 14 27 undef (by kernel_rfl) (fun _ _ _ h => h) ?_ hHeld (tk 15 28 undef (by kernel_rfl) (fun _ _ _ h => h) ?_ hHeld (tk 16 29 undef (by kernel_rfl) (fun _ _ _ h => h) ?_ hHeld (tk 17 30 undef (by kernel_rfl) (fun _ _ _ h => h) ?_ hHeld ?_)))
        iterate 4 (focus (intro o ho; simp only [gZa, gZb, gZc, gZd] at ho; subst ho; (try simp only [Act.put, sZa, sZb, sZc]); exact Or.inr ⟨by rfl, rfl⟩))
        try simp only [Act.put, sZa, sZb, sZc]
        refine tk 18 31 undef (by kernel_rfl) (fun _ _ _ h => h) ?_ hHeld ?_
        · (intro o ho; simp only [gZa, gZb, gZc, gZd] at ho; subst ho; exact Or.inr ⟨by rfl, rfl⟩)
        try simp only [Act.put, sZa, sZb, sZc]
        refine tk 19 32 ?_ (by kernel_rfl) (fun _ _ _ h => h) ?_ hHeld (tk 20 33 ?_ (by kernel_rfl) (fun _ _ _ h => h) ?_ hHeld ?_)
        iterate 2 (rotate_left; focus (intro o ho; simp only [gZa, gZb, gZc, gZd] at ho; subst ho; refine Or.inl ⟨by rfl, ?_⟩; intro w hSw; (try dsimp only at hSw); (try simp only [Act.put, sZa, sZb, sZc]); go_simp; try with_reducible rfl))
        try simp only [Act.put, sZa, sZb, sZc]
        refine tk 21 34 undef (by kernel_rfl) (fun _ _ _ h => h) ?_ hHeld (tk 22 35 undef (by kernel_rfl) (fun _ _ _ h => h) ?_ hHeld (tk 23 36 undef (by kernel_rfl) (fun _ _ _ h => h) ?_ hHeld (tk 24 37 undef (by kernel_rfl) (fun _ _ _ h => h) ?_ hHeld ?_)))
        iterate 4 (focus (intro o ho; simp only [gZa, gZb, gZc, gZd] at ho; subst ho; (try simp only [Act.put, sZa, sZb, sZc]); exact Or.inr ⟨by rfl, rfl⟩))
        try simp only [Act.put, sZa, sZb, sZc]
        refine tk 25 38 undef (by kernel_rfl) (fun _ _ _ h => h) ?_ hHeld (tk 26 39 undef (by kernel_rfl) (fun _ _ _ h => h) ?_ hHeld (tk 27 40 undef (by kernel_rfl) (fun _ _ _ h => h) ?_ hHeld (tk 28 41 undef (by kernel_rfl) (fun _ _ _ h => h) ?_ hHeld ?_)))
        iterate 4 (focus (intro o ho; simp only [gZa, gZb, gZc, gZd] at ho; subst ho; (try simp only [Act.put, sZa, sZb, sZc]); exact Or.inr ⟨by rfl, rfl⟩))
        try simp only [Act.put, sZa, sZb, sZc]
        refine tk 29 42 undef (by kernel_rfl) (fun _ _ _ h => h) ?_ hHeld ?_
        · (intro o ho; simp only [gZa, gZb, gZc, gZd] at ho; subst ho; exact Or.inr ⟨by rfl, rfl⟩)
        try simp only [Act.put, sZa, sZb, sZc]
        refine tk 30 43 ?_ (by kernel_rfl) (fun _ _ _ h => h) ?_ hHeld ?_
        rotate_left
        · (intro o ho; simp only [gZa, gZb, gZc, gZd] at ho; subst ho; refine Or.inl ⟨by rfl, ?_⟩; intro w hSw; (try dsimp only at hSw); go_simp; try with_reducible rfl)
        try simp only [Act.put, sZa, sZb, sZc]
        refine wpAnyH_done (by kernel_rfl) ?_ _
        go_wp2_with fail
        go_roundw
        case rel => exact ⟨k + 1, hlt, by go_num, H3.out, HB.out.drew⟩
        case measure => simp [intOf]; omega
    · obtain rfl : k = n := by omega
      clear hbel hno hbox x0 x1 h1
      go_wp2_with fail
      go_ret
      exact ⟨retB HN.out.symm, bW.trans (HB.out.mono (by omega))⟩
end Go.Proofs.YtakmpmhjcngbbaaGreatDoor
namespace Go.Proofs.YtakmpmhjcngbbaaGreatDoor
open Go.ChangeShapes Go.WideShapes Go.ChangeAt Go.RowKit
def nz (f : Nat → Int) : Nat → Nat → Int
  | 0, _ => 0
  | n + 1, k => if f k = 0 then nz f n (k + 1) else f k
theorem nz_step {f : Nat → Int} {n k : Nat} (h : k < n) : nz f (n - k) k = if f k = 0 then nz f (n - (k + 1)) (k + 1) else f k := by
  rw [show n - k = (n - (k + 1)) + 1 by omega]; rfl
theorem cmpOr (b n c : Nat) (f : Nat → Int) (w : World) (hn : n ≤ 1000) (h : ∀ i, i < n → w.cell? ⟨b, i, none⟩ = some (.int .i64 (f i))) :
    Calls Tryz.prog 87 #[.slice (some ⟨b, 0, none⟩) n c] w fun e w' => e = .returned (.int .i64 (nz f n 0)) ∧ w' = w := by
  go_enter Tryz.func87, Tryz.ntmps87
  go_wp2_with fail
  go_loop [8] (fun i => ∃ k : Nat, k ≤ n ∧ i = .int .i64 (k : Int) ∧ Hid (nz f n 0 = nz f (n - k) k)) (fun i => n - (intOf i).toNat)
  case atStart => exact ⟨0, Nat.zero_le _, rfl, hid rfl⟩
  case round =>
    obtain ⟨k, hk, rfl, HE⟩ := hrel
    by_cases hlt : k < n
    · have x0 := h k hlt
      have i1 : (0 : Int) ≤ (k : Int) := Int.natCast_nonneg _
      have i2 : (k : Int) < (n : Int) := by omega
      have HG : Hid (nz f n 0 = if f k = 0 then nz f (n - (k + 1)) (k + 1) else f k) := hid (by rw [HE.out, nz_step hlt])
      obtain ⟨x, hx⟩ : ∃ x, f k = x := ⟨_, rfl⟩
      rw [hx] at x0 HG
      clear h hx HE
      by_cases h0 : x = 0
      · subst h0
        have HG : Hid (nz f n 0 = nz f (n - (k + 1)) (k + 1)) := hid (by rw [HG.out, if_pos rfl])
        go_wp2_with fail
        go_round
        case rel => exact ⟨k + 1, hlt, by go_num, HG⟩
        case measure => simp [intOf]; omega
      · have HG : Hid (nz f n 0 = x) := hid (by rw [HG.out, if_neg h0])
        have n0 : (x != 0) = true := by simpa using h0
        go_wp2_with fail
        go_ret
        exact ⟨ret_i HG.out.symm, rfl⟩
    · obtain rfl : k = n := by omega
      have HG : Hid (nz f k 0 = 0) := hid (by rw [HE.out, Nat.sub_self]; rfl)
      clear h HE
      go_wp2_with fail
      go_ret
      exact ⟨ret_i HG.out.symm, rfl⟩
def orI (x y : Int) : Int := if x = 0 then y else x
theorem nz2 {f : Nat → Int} : nz f 2 0 = orI (f 0) (f 1) := by
  unfold orI nz; by_cases h : f 0 = 0
  · rw [if_pos h, if_pos h]; unfold nz; by_cases h1 : f 1 = 0
    · rw [if_pos h1, h1]; rfl
    · rw [if_neg h1]
  · rw [if_neg h, if_neg h]
def kd (fl : Bool) : Int := if fl = true then 2 else 1
def cmpD (r q r' q' : Int) : Int := orI (cmpI r r') (cmpI q q')
def cmpL (x y : Lf) : Int := orI (cmpP x.p y.p) (orI (cmpI (kd x.fl) (kd y.fl)) (cmpD x.r x.q y.r y.q))
theorem compareDots (r q r' q' : Int) (w : World) : Calls Tryz.prog 78 #[.agg #[.int .i64 r, .int .i64 q], .agg #[.int .i64 r', .int .i64 q']] w fun e w' => e = .returned (.int .i64 (cmpD r q r' q')) ∧ Below w.heap.size w w' := by
  obtain ⟨W, hW⟩ : ∃ W, (w.alloc (.cells #[.int .i64 r, .int .i64 q] 87)).alloc (.cells #[.int .i64 r', .int .i64 q'] 87) = W := ⟨_, rfl⟩
  have b0 : Below w.heap.size w W := by rw [← hW]; exact below2 _ _ _
  have zW : W.heap.size = w.heap.size + 2 := by rw [← hW]; simp
  have k0 : W.cell? ⟨w.heap.size, 0, none⟩ = some (.int .i64 r) := by rw [← hW]; simp
  have k1 : W.cell? ⟨w.heap.size, 1, none⟩ = some (.int .i64 q) := by rw [← hW]; simp
  have l0 : W.cell? ⟨w.heap.size + 1, 0, none⟩ = some (.int .i64 r') := by rw [← hW]; simp
  have l1 : W.cell? ⟨w.heap.size + 1, 1, none⟩ = some (.int .i64 q') := by rw [← hW]; simp
  have HB0 := hid b0
  have z0 : w.heap.size < W.heap.size := by omega
  have z1 : w.heap.size + 1 < W.heap.size := by omega
  clear b0 zW
  go_enter Tryz.func78, Tryz.ntmps78
  go_wp2_with fail
  try rw [hW]
  clear hW
  have CS : ∀ w', Below W.heap.size W w' → (Below W.heap.size W w' ∧ w'.cell? ⟨w.heap.size, 0, none⟩ = some (.int .i64 r) ∧ w'.cell? ⟨w.heap.size, 1, none⟩ = some (.int .i64 q) ∧ w'.cell? ⟨w.heap.size + 1, 0, none⟩ = some (.int .i64 r') ∧ w'.cell? ⟨w.heap.size + 1, 1, none⟩ = some (.int .i64 q')) := fun w' hB => ⟨hB, (hB.cell (p := ⟨w.heap.size, 0, none⟩) z0).trans k0, (hB.cell (p := ⟨w.heap.size, 1, none⟩) z0).trans k1, (hB.cell (p := ⟨w.heap.size + 1, 0, none⟩) z1).trans l0, (hB.cell (p := ⟨w.heap.size + 1, 1, none⟩) z1).trans l1⟩
  have HCS := hid CS
  clear CS
  refine wp_region_held_drew (S := fun w' => Below W.heap.size W w' ∧ w'.cell? ⟨w.heap.size, 0, none⟩ = some (.int .i64 r) ∧ w'.cell? ⟨w.heap.size, 1, none⟩ = some (.int .i64 q) ∧ w'.cell? ⟨w.heap.size + 1, 0, none⟩ = some (.int .i64 r') ∧ w'.cell? ⟨w.heap.size + 1, 1, none⟩ = some (.int .i64 q')) (by kernel_rfl) (HCS.out _ (Below.refl _ _).drew) (fun hHeld => ?_)
  refine tk 0 5 ?_ (by kernel_rfl) (fun _ _ _ h => h) ?_ hHeld (tk 1 6 ?_ (by kernel_rfl) (fun _ _ _ h => h) ?_ hHeld (tk 2 7 ?_ (by kernel_rfl) (fun _ _ _ h => h) ?_ hHeld (tk 3 8 ?_ (by kernel_rfl) (fun _ _ _ h => h) ?_ hHeld ?_)))
  iterate 4 (rotate_left; focus (intro o ho; simp only [gZa, gZb, gZc, gZd] at ho; subst ho; refine Or.inl ⟨by rfl, ?_⟩; intro w hSw; (try dsimp only at hSw); (try simp only [Act.put, sZa, sZb, sZc]); go_simp; try with_reducible rfl))
  try simp only [Act.put, sZa, sZb, sZc]
  refine tk 5 10 ?_ (by kernel_rfl) (fun _ _ _ h => h) ?_ hHeld (tk 6 11 ?_ (by kernel_rfl) (fun _ _ _ h => h) ?_ hHeld (tk 7 12 ?_ (by kernel_rfl) (fun _ _ _ h => h) ?_ hHeld (tk 8 13 ?_ (by kernel_rfl) (fun _ _ _ h => h) ?_ hHeld ?_)))
  iterate 4 (rotate_left; focus (intro o ho; simp only [gZa, gZb, gZc, gZd] at ho; subst ho; refine Or.inl ⟨by rfl, ?_⟩; intro w hSw; (try dsimp only at hSw); (try simp only [Act.put, sZa, sZb, sZc]); go_simp; try with_reducible rfl))
  try simp only [Act.put, sZa, sZb, sZc]
  refine call1 (i := 4) (d := some 9) (by kernel_rfl) (by kernel_rfl) ?_
  intro o ho hod K hK; simp only [gZa, gZb, gZc, gZd] at ho; subst ho
  go_simp
  refine (compare r r' _).mono ?_
  rintro e w1 ⟨rfl, rfl⟩
  refine hK.out _ _ hHeld (fun hHeld => ?_)
  clear hK K
  try simp only [Act.put, sZa, sZb, sZc]
  refine call1 (i := 9) (d := some 14) (by kernel_rfl) (by kernel_rfl) ?_
  intro o ho hod K hK; simp only [gZa, gZb, gZc, gZd] at ho; subst ho
  go_simp
  refine (compare q q' _).mono ?_
  rintro e w2 ⟨rfl, rfl⟩
  refine hK.out _ _ hHeld (fun hHeld => ?_)
  clear hK K
  try simp only [Act.put, sZa, sZb, sZc]
  refine call1 (i := 10) (d := some 15) (by kernel_rfl) (by kernel_rfl) ?_
  intro o ho hod K hK; simp only [gZa, gZb, gZc, gZd] at ho; subst ho
  go_simp
  have hB := hHeld.1.alloc hHeld.1.size (.cells #[.int .i64 (cmpI r r'), .int .i64 (cmpI q q')] 3)
  refine hK.out _ _ (HCS.out _ hB) (fun hHeld => ?_)
  clear hK K
  try simp only [Act.put, sZa, sZb, sZc]
  refine call1 (i := 11) (d := some 16) (by kernel_rfl) (by kernel_rfl) ?_
  intro o ho hod K hK; simp only [gZa, gZb, gZc, gZd] at ho; subst ho
  go_simp
  refine (cmpOr _ 2 2 (fun i => if i = 0 then cmpI r r' else cmpI q q') _ (by omega) (fun i hi => ?_)).mono ?_
  · match i, hi with
    | 0, _ => simp
    | 1, _ => simp
  rintro e w3 ⟨rfl, rfl⟩
  refine hK.out _ _ hHeld (fun hHeld => ?_)
  clear hK K
  try simp only [Act.put, sZa, sZb, sZc]
  refine tk 12 4 ?_ (by kernel_rfl) (fun _ _ _ h => h) ?_ hHeld ?_
  rotate_left
  · (intro o ho; simp only [gZa, gZb, gZc, gZd] at ho; subst ho; refine Or.inl ⟨by rfl, ?_⟩; intro w hSw; (try dsimp only at hSw); go_simp; try with_reducible rfl)
  try simp only [Act.put, sZa, sZb, sZc]
  refine wpAnyH_done (by kernel_rfl) ?_ _
  have HB := hid (HB0.out.trans (hHeld.1.mono HB0.out.size))
  clear hHeld hB
  go_wp2_with fail
  go_ret
  exact ⟨ret_i nz2, HB.out⟩
end Go.Proofs.YtakmpmhjcngbbaaGreatDoor
