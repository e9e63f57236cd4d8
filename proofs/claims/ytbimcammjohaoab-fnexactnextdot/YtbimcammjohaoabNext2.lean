import Derived.Test.YtbimcammjohaoabNext
namespace Go.Proofs.Ytbimcammjohaoab
open Go.ChangeShapes Go.WideShapes Go.ChangeAt Go.RowKit Go.Maps
set_option linter.unusedVariables false
set_option linter.unusedSimpArgs false

set_option maxHeartbeats 400000 in
theorem dotOk (r q : Int) (w : World) :
    Calls Try.prog 31 #[.agg #[.int .i64 r, .int .i64 q]] w fun e w' => e = .returned (.bool (runOkB r q q)) ∧ Below w.heap.size w w' := by
  have B0 : Below w.heap.size w (w.alloc (.cells #[.int .i64 r, .int .i64 q] 37)) := (Below.refl _ _).alloc (Nat.le_refl _) _
  have HB := hid B0
  clear B0
  go_enter Try.func31, Try.ntmps31
  go_wp2_with fail
  refine (specRunOk r q q _).mono ?_
  rintro e w1 ⟨rfl, b1⟩
  have HZ := hid (keepS HB.out b1)
  clear b1
  go_wp2_with fail
  go_ret
  exact ⟨rfl, HZ.out⟩

def nextOk (R F T : Nat → Int) (rep : Int) (n : Nat) : Bool := ctxB R F T n && runOkB rep (topK R T rep n + 1) (topK R T rep n + 1)

theorem topK_bd {R F T : Nat → Int} {n : Nat} (h : ctxB R F T n = true) (rep : Int) : 0 ≤ topK R T rep n ∧ topK R T rep n ≤ 1000000000 := by
  have := Lk_inv n (ctxB_iff.1 h).1
  rw [this.2.2.1 rep]
  exact this.2.2.2 rep

theorem topK_i64 {R T : Nat → Int} (hT : I64 T) (rep : Int) (k : Nat) : -9223372036854775808 ≤ topK R T rep k ∧ topK R T rep k ≤ 9223372036854775807 := by
  induction k with
  | zero => simp [topK]
  | succ k ih =>
    simp only [topK]
    split
    · exact hT k
    · exact ih

theorem top_hit {R T : Nat → Int} {rep : Int} {k : Nat} (h : R k = rep) (h2 : topK R T rep k < T k) : topK R T rep (k + 1) = T k := by
  show (if R k = rep ∧ topK R T rep k < T k then T k else topK R T rep k) = _
  rw [if_pos ⟨h, h2⟩]
theorem top_miss {R T : Nat → Int} {rep : Int} {k : Nat} (h : ¬ (R k = rep ∧ topK R T rep k < T k)) : topK R T rep (k + 1) = topK R T rep k := by
  show (if R k = rep ∧ topK R T rep k < T k then T k else topK R T rep k) = _
  rw [if_neg h]
theorem vI {a b : Int} (h : a = b) : Value.int .i64 a = .int .i64 b := by rw [h]

set_option maxRecDepth 100000 in
set_option maxHeartbeats 1000000 in
theorem specNext (a : Option Addr) (n c : Nat) (R F T : Nat → Int) (rep : Int) (w : World) (hn : n ≤ 1048576) (h : RSeg w a n R F T) (hT : I64 T) :
    Calls Try.prog 17 #[.agg #[.slice a n c], .int .i64 rep] w fun e w' =>
      (nextOk R F T rep n = true → e = .returned (.tuple #[.agg #[.int .i64 rep, .int .i64 (topK R T rep n + 1)], .bool true])) ∧ (nextOk R F T rep n = false → e = .returned (.tuple #[.agg #[.int .i64 0, .int .i64 0], .bool false])) ∧ Below w.heap.size w w' := by
  obtain ⟨W0, hW0⟩ : ∃ W0, (w.alloc (.cells #[.slice a n c] 29)).alloc (.cells #[.int .i64 0, .int .i64 0] 37) = W0 := ⟨_, rfl⟩
  have bW : Below w.heap.size w W0 := by rw [← hW0]; exact below2 _ _ _
  have zW : W0.heap.size = w.heap.size + 2 := by rw [← hW0]; simp
  have hbox : W0.cell? ⟨w.heap.size, 0, none⟩ = some (.slice a n c) := by rw [← hW0]; simp
  have x0 : W0.cell? ⟨w.heap.size + 1, 0, none⟩ = some (.int .i64 0) := by rw [← hW0]; simp
  have x1 : W0.cell? ⟨w.heap.size + 1, 1, none⟩ = some (.int .i64 0) := by rw [← hW0]; simp
  have f0 : W0.frozen? ⟨w.heap.size + 1, 0, none⟩ = false := by rw [← hW0]; simp
  have f1 : W0.frozen? ⟨w.heap.size + 1, 1, none⟩ = false := by rw [← hW0]; simp
  have h1 := h.below bW
  go_enter Try.func17, Try.ntmps17
  go_wp2_with fail
  try rw [hW0]
  go_loop [6, 7] (fun t i => ∃ k : Nat, k ≤ n ∧ i = .int .i64 k ∧ t = .int .i64 (topK R T rep k)) (fun _ i => n - (intOf i).toNat)
  case atStart => exact ⟨0, Nat.zero_le _, rfl, rfl⟩
  case round =>
    obtain ⟨k, hk, rfl, rfl⟩ := hrel
    have htk := topK_i64 (R := R) hT rep k
    by_cases hlt : k < n
    · rcases h1 with h1 | ⟨b, off, rfl, hb, hc⟩
      · omega
      have c0 := (hc k hlt).1
      have c2 := (hc k hlt).2.2
      clear hc h
      by_cases e1 : R k = rep
      · have t1 : (R k == rep) = true := by simp; exact e1
        by_cases e2 : topK R T rep k < T k
        · have HE := hid (top_hit e1 e2)
          have H1 := hid e1
          clear e1
          generalize topK R T rep k = tk at *
          go_wp2_with fail
          go_round
          case rel => exact ⟨k + 1, hlt, by go_num, vI HE.out.symm⟩
          case measure => simp [intOf]; omega
        · have HE := hid (top_miss (R := R) (T := T) (rep := rep) (k := k) (fun hh => e2 hh.2))
          clear e1
          generalize topK R T rep k = tk at *
          go_wp2_with fail
          go_round
          case rel => exact ⟨k + 1, hlt, by go_num, vI HE.out.symm⟩
          case measure => simp [intOf]; omega
      · have t1 : (R k == rep) = false := by simp; exact e1
        have HE := hid (top_miss (R := R) (T := T) (rep := rep) (k := k) (fun hh => e1 hh.1))
        clear e1
        generalize topK R T rep k = tk at *
        go_wp2_with fail
        go_round
        case rel => exact ⟨k + 1, hlt, by go_num, vI HE.out.symm⟩
        case measure => simp [intOf]; omega
    · obtain rfl : k = n := by omega
      clear h hk
      cases hcx : ctxB R F T k with
      | false =>
        have HN : Hid (nextOk R F T rep k = false) := by unfold Hid nextOk; rw [hcx]; rfl
        obtain ⟨W3, hW3⟩ : ∃ W3, W0.alloc (.cells #[.int .i64 rep, .int .i64 (wrap64 (topK R T rep k + 1))] 37) = W3 := ⟨_, rfl⟩
        have b3 : Below W0.heap.size W0 W3 := by rw [← hW3]; exact (Below.refl _ _).alloc (Nat.le_refl _) _
        have z3 : W3.heap.size = w.heap.size + 3 := by rw [← hW3]; simp; omega
        have d0 : W3.cell? ⟨w.heap.size + 2, 0, none⟩ = some (.int .i64 rep) := by rw [← hW3, ← zW]; simp
        have d1 : W3.cell? ⟨w.heap.size + 2, 1, none⟩ = some (.int .i64 (wrap64 (topK R T rep k + 1))) := by rw [← hW3, ← zW]; simp
        have B03 := bW.trans (b3.mono (by omega))
        have y0 := (b3.cell (p := ⟨w.heap.size + 1, 0, none⟩) (show w.heap.size + 1 < W0.heap.size by omega)).trans x0
        have y1 := (b3.cell (p := ⟨w.heap.size + 1, 1, none⟩) (show w.heap.size + 1 < W0.heap.size by omega)).trans x1
        have g0 := (b3.frozen (p := ⟨w.heap.size + 1, 0, none⟩) (show w.heap.size + 1 < W0.heap.size by omega)).trans f0
        have g1 := (b3.frozen (p := ⟨w.heap.size + 1, 1, none⟩) (show w.heap.size + 1 < W0.heap.size by omega)).trans f1
        have hbox3 := (b3.cell (p := ⟨w.heap.size, 0, none⟩) (show w.heap.size < W0.heap.size by omega)).trans hbox
        have h3 := h1.below b3
        clear h1 b3 hW0
        go_wp2_with fail
        try rw [hW3]
        clear hW3 hbox hbox3 x0 x1 f0 f1
        refine (specOk a k c R F T _ hn h3).mono ?_
        rintro e w4 ⟨rfl, b4⟩
        rw [hcx]
        have z4 := b4.size
        have q0 := (b4.cell (p := ⟨w.heap.size + 1, 0, none⟩) (show w.heap.size + 1 < W3.heap.size by omega)).trans y0
        have q1 := (b4.cell (p := ⟨w.heap.size + 1, 1, none⟩) (show w.heap.size + 1 < W3.heap.size by omega)).trans y1
        have p0 := (b4.frozen (p := ⟨w.heap.size + 1, 0, none⟩) (show w.heap.size + 1 < W3.heap.size by omega)).trans g0
        have p1 := (b4.frozen (p := ⟨w.heap.size + 1, 1, none⟩) (show w.heap.size + 1 < W3.heap.size by omega)).trans g1
        have dd0 := (b4.cell (p := ⟨w.heap.size + 2, 0, none⟩) (show w.heap.size + 2 < W3.heap.size by omega)).trans d0
        have dd1 := (b4.cell (p := ⟨w.heap.size + 2, 1, none⟩) (show w.heap.size + 2 < W3.heap.size by omega)).trans d1
        have HB4 := hid (keepS B03 b4)
        clear y0 y1 g0 g1 d0 d1 h3 b4 B03 hcx
        go_wp2_with fail
        refine bodyPost_ret (v := .tuple #[.agg #[.int .i64 0, .int .i64 0], .bool false]) (by simp [results, Try.results17, go_sem, q0, q1]) rfl ⟨(fun h => by have := HN.out.symm.trans h; cases this), (fun _ => rfl), ?_⟩
        exact (HB4.out.setCell (by simp) _).setCell (by simp) _
      | true =>
        have htb := topK_bd hcx rep
        cases hdo : runOkB rep (topK R T rep k + 1) (topK R T rep k + 1) with
        | false =>
          have HN : Hid (nextOk R F T rep k = false) := by unfold Hid nextOk; rw [hcx, hdo]; rfl
          clear htk
          generalize hgt : topK R T rep k = tk at *
          have HT := hid hgt
          clear hgt
          obtain ⟨W3, hW3⟩ : ∃ W3, W0.alloc (.cells #[.int .i64 rep, .int .i64 (tk + 1)] 37) = W3 := ⟨_, rfl⟩
          have b3 : Below W0.heap.size W0 W3 := by rw [← hW3]; exact (Below.refl _ _).alloc (Nat.le_refl _) _
          have z3 : W3.heap.size = w.heap.size + 3 := by rw [← hW3]; simp; omega
          have d0 : W3.cell? ⟨w.heap.size + 2, 0, none⟩ = some (.int .i64 rep) := by rw [← hW3, ← zW]; simp
          have d1 : W3.cell? ⟨w.heap.size + 2, 1, none⟩ = some (.int .i64 (tk + 1)) := by rw [← hW3, ← zW]; simp
          have B03 := bW.trans (b3.mono (by omega))
          have y0 := (b3.cell (p := ⟨w.heap.size + 1, 0, none⟩) (show w.heap.size + 1 < W0.heap.size by omega)).trans x0
          have y1 := (b3.cell (p := ⟨w.heap.size + 1, 1, none⟩) (show w.heap.size + 1 < W0.heap.size by omega)).trans x1
          have g0 := (b3.frozen (p := ⟨w.heap.size + 1, 0, none⟩) (show w.heap.size + 1 < W0.heap.size by omega)).trans f0
          have g1 := (b3.frozen (p := ⟨w.heap.size + 1, 1, none⟩) (show w.heap.size + 1 < W0.heap.size by omega)).trans f1
          have hbox3 := (b3.cell (p := ⟨w.heap.size, 0, none⟩) (show w.heap.size < W0.heap.size by omega)).trans hbox
          have h3 := h1.below b3
          clear h1 b3 hW0
          go_wp2_with fail
          try rw [hW3]
          clear hW3 hbox hbox3 x0 x1 f0 f1
          refine (specOk a k c R F T _ hn h3).mono ?_
          rintro e w4 ⟨rfl, b4⟩
          rw [hcx]
          have z4 := b4.size
          have q0 := (b4.cell (p := ⟨w.heap.size + 1, 0, none⟩) (show w.heap.size + 1 < W3.heap.size by omega)).trans y0
          have q1 := (b4.cell (p := ⟨w.heap.size + 1, 1, none⟩) (show w.heap.size + 1 < W3.heap.size by omega)).trans y1
          have p0 := (b4.frozen (p := ⟨w.heap.size + 1, 0, none⟩) (show w.heap.size + 1 < W3.heap.size by omega)).trans g0
          have p1 := (b4.frozen (p := ⟨w.heap.size + 1, 1, none⟩) (show w.heap.size + 1 < W3.heap.size by omega)).trans g1
          have dd0 := (b4.cell (p := ⟨w.heap.size + 2, 0, none⟩) (show w.heap.size + 2 < W3.heap.size by omega)).trans d0
          have dd1 := (b4.cell (p := ⟨w.heap.size + 2, 1, none⟩) (show w.heap.size + 2 < W3.heap.size by omega)).trans d1
          have HB4 := hid (keepS B03 b4)
          clear y0 y1 g0 g1 d0 d1 h3 b4 B03 hcx
          go_wp2_with fail
          refine (dotOk rep (tk + 1) _).mono ?_
          rintro e w5 ⟨rfl, b5⟩
          rw [hdo]
          have q0' := (b5.cell (p := ⟨w.heap.size + 1, 0, none⟩) (show w.heap.size + 1 < w4.heap.size by omega)).trans q0
          have q1' := (b5.cell (p := ⟨w.heap.size + 1, 1, none⟩) (show w.heap.size + 1 < w4.heap.size by omega)).trans q1
          have p0' := (b5.frozen (p := ⟨w.heap.size + 1, 0, none⟩) (show w.heap.size + 1 < w4.heap.size by omega)).trans p0
          have p1' := (b5.frozen (p := ⟨w.heap.size + 1, 1, none⟩) (show w.heap.size + 1 < w4.heap.size by omega)).trans p1
          have HB5 := hid (keepS HB4.out b5)
          clear q0 q1 p0 p1 b5 hdo dd0 dd1
          go_wp2_with fail
          refine bodyPost_ret (v := .tuple #[.agg #[.int .i64 0, .int .i64 0], .bool false]) (by simp [results, Try.results17, go_sem, q0', q1']) rfl ⟨(fun h => by have := HN.out.symm.trans h; cases this), (fun _ => rfl), ?_⟩
          exact (HB5.out.setCell (by simp) _).setCell (by simp) _
        | true =>
          have HN : Hid (nextOk R F T rep k = true) := by unfold Hid nextOk; rw [hcx, hdo]; rfl
          clear htk
          generalize hgt : topK R T rep k = tk at *
          have HT := hid hgt
          clear hgt
          obtain ⟨W3, hW3⟩ : ∃ W3, W0.alloc (.cells #[.int .i64 rep, .int .i64 (tk + 1)] 37) = W3 := ⟨_, rfl⟩
          have b3 : Below W0.heap.size W0 W3 := by rw [← hW3]; exact (Below.refl _ _).alloc (Nat.le_refl _) _
          have z3 : W3.heap.size = w.heap.size + 3 := by rw [← hW3]; simp; omega
          have d0 : W3.cell? ⟨w.heap.size + 2, 0, none⟩ = some (.int .i64 rep) := by rw [← hW3, ← zW]; simp
          have d1 : W3.cell? ⟨w.heap.size + 2, 1, none⟩ = some (.int .i64 (tk + 1)) := by rw [← hW3, ← zW]; simp
          have B03 := bW.trans (b3.mono (by omega))
          have y0 := (b3.cell (p := ⟨w.heap.size + 1, 0, none⟩) (show w.heap.size + 1 < W0.heap.size by omega)).trans x0
          have y1 := (b3.cell (p := ⟨w.heap.size + 1, 1, none⟩) (show w.heap.size + 1 < W0.heap.size by omega)).trans x1
          have g0 := (b3.frozen (p := ⟨w.heap.size + 1, 0, none⟩) (show w.heap.size + 1 < W0.heap.size by omega)).trans f0
          have g1 := (b3.frozen (p := ⟨w.heap.size + 1, 1, none⟩) (show w.heap.size + 1 < W0.heap.size by omega)).trans f1
          have hbox3 := (b3.cell (p := ⟨w.heap.size, 0, none⟩) (show w.heap.size < W0.heap.size by omega)).trans hbox
          have h3 := h1.below b3
          clear h1 b3 hW0
          go_wp2_with fail
          try rw [hW3]
          clear hW3 hbox hbox3 x0 x1 f0 f1
          refine (specOk a k c R F T _ hn h3).mono ?_
          rintro e w4 ⟨rfl, b4⟩
          rw [hcx]
          have z4 := b4.size
          have q0 := (b4.cell (p := ⟨w.heap.size + 1, 0, none⟩) (show w.heap.size + 1 < W3.heap.size by omega)).trans y0
          have q1 := (b4.cell (p := ⟨w.heap.size + 1, 1, none⟩) (show w.heap.size + 1 < W3.heap.size by omega)).trans y1
          have p0 := (b4.frozen (p := ⟨w.heap.size + 1, 0, none⟩) (show w.heap.size + 1 < W3.heap.size by omega)).trans g0
          have p1 := (b4.frozen (p := ⟨w.heap.size + 1, 1, none⟩) (show w.heap.size + 1 < W3.heap.size by omega)).trans g1
          have dd0 := (b4.cell (p := ⟨w.heap.size + 2, 0, none⟩) (show w.heap.size + 2 < W3.heap.size by omega)).trans d0
          have dd1 := (b4.cell (p := ⟨w.heap.size + 2, 1, none⟩) (show w.heap.size + 2 < W3.heap.size by omega)).trans d1
          have HB4 := hid (keepS B03 b4)
          clear y0 y1 g0 g1 d0 d1 h3 b4 B03 hcx
          go_wp2_with fail
          refine (dotOk rep (tk + 1) _).mono ?_
          rintro e w5 ⟨rfl, b5⟩
          rw [hdo]
          have q0' := (b5.cell (p := ⟨w.heap.size + 1, 0, none⟩) (show w.heap.size + 1 < w4.heap.size by omega)).trans q0
          have q1' := (b5.cell (p := ⟨w.heap.size + 1, 1, none⟩) (show w.heap.size + 1 < w4.heap.size by omega)).trans q1
          have p0' := (b5.frozen (p := ⟨w.heap.size + 1, 0, none⟩) (show w.heap.size + 1 < w4.heap.size by omega)).trans p0
          have p1' := (b5.frozen (p := ⟨w.heap.size + 1, 1, none⟩) (show w.heap.size + 1 < w4.heap.size by omega)).trans p1
          have dd0' := (b5.cell (p := ⟨w.heap.size + 2, 0, none⟩) (show w.heap.size + 2 < w4.heap.size by omega)).trans dd0
          have dd1' := (b5.cell (p := ⟨w.heap.size + 2, 1, none⟩) (show w.heap.size + 2 < w4.heap.size by omega)).trans dd1
          have HB5 := hid (keepS HB4.out b5)
          clear q0 q1 p0 p1 b5 hdo dd0 dd1
          go_wp2_with fail
          refine bodyPost_ret (v := .tuple #[.agg #[.int .i64 rep, .int .i64 (tk + 1)], .bool true]) (by simp [results, Try.results17, go_sem, q0', q1']) rfl ⟨(fun _ => by rw [HT.out]), (fun h => by have := HN.out.symm.trans h; cases this), ?_⟩
          exact (HB5.out.setCell (by simp) _).setCell (by simp) _
end Go.Proofs.Ytbimcammjohaoab
