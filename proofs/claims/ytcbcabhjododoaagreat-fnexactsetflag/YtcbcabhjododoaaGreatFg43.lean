import Derived.Test.YtcbcabhjododoaaGreatFg08
import Derived.Test.YtcbcabhjododoaaGreatFg42
set_option linter.unusedVariables false
set_option linter.unusedSimpArgs false
set_option maxRecDepth 100000
set_option maxHeartbeats 40000000
namespace Go.Proofs.YtcbcabhjododoaaGreat
open Go.ChangeShapes Go.WideShapes Go.ChangeAt Go.RowKit Go.Maps
theorem dotOk (r q : Int) (w : World) :
  Calls Tryz.prog 86 #[.agg #[.int .i64 r, .int .i64 q]] w fun e w' => e = .returned (.bool (runOkB r q q)) ∧ Below w.heap.size w w' := by
 have B0 : Below w.heap.size w (w.alloc (.cells #[.int .i64 r, .int .i64 q] 55)) := (Below.refl _ _).alloc (Nat.le_refl _) _
 have HB := hid B0
 clear B0
 go_enter Tryz.func86, Tryz.ntmps86
 go_wp2_with fail
 refine (specRunOk r q q _).mono ?_
 rintro e w1 ⟨rfl, b1⟩
 have HZ := hid (keepS HB.out b1)
 clear b1
 go_wp2_with fail
 go_ret
 exact ⟨rfl, HZ.out⟩
def nextOk (R F T : Nat → Int) (rep : Int) (n : Nat) : Bool := ctxB R F T n && runOkB rep (topK R T rep n + 1) (topK R T rep n + 1)
theorem topK_bd {R F T : Nat → Int} {n : Nat} (h : ctxB R F T n = true) (rep : Int) : 0 ≤ topK R T rep n ∧ topK R T rep n ≤ 1000000000 := by
 have := Lk_inv n (ctxB_iff.1 h).1
 rw [this.2.2.1 rep]
 exact this.2.2.2 rep
theorem topK_i64 {R T : Nat → Int} (hT : I64 T) (rep : Int) (k : Nat) : -9223372036854775808 ≤ topK R T rep k ∧ topK R T rep k ≤ 9223372036854775807 := by
 induction k with
 | zero => simp [topK]
 | succ k ih =>
  simp only [topK]
  split
  ·exact hT k
  ·exact ih
theorem top_hit {R T : Nat → Int} {rep : Int} {k : Nat} (h : R k = rep) (h2 : topK R T rep k < T k) : topK R T rep (k + 1) = T k := by
 show (if R k = rep ∧ topK R T rep k < T k then T k else topK R T rep k) = _
 rw [if_pos ⟨h, h2⟩]
theorem top_miss {R T : Nat → Int} {rep : Int} {k : Nat} (h : ¬ (R k = rep ∧ topK R T rep k < T k)) : topK R T rep (k + 1) = topK R T rep k := by
 show (if R k = rep ∧ topK R T rep k < T k then T k else topK R T rep k) = _
 rw [if_neg h]
theorem vI {a b : Int} (h : a = b) : Value.int .i64 a = .int .i64 b := by rw [h]
theorem specNext (a : Option Addr) (n c : Nat) (R F T : Nat → Int) (rep : Int) (w : World) (hn : n ≤ 1048576) (h : RSeg w a n R F T) (hT : I64 T) :
  Calls Tryz.prog 65 #[.agg #[.slice a n c], .int .i64 rep] w fun e w' =>
   (nextOk R F T rep n = true → e = .returned (.tuple #[.agg #[.int .i64 rep, .int .i64 (topK R T rep n + 1)], .bool true])) ∧ (nextOk R F T rep n = false → e = .returned (.tuple #[.agg #[.int .i64 0, .int .i64 0], .bool false])) ∧ Below w.heap.size w w' := by
 obtain ⟨W0, hW0⟩ : ∃ W0, (w.alloc (.cells #[.slice a n c] 34)).alloc (.cells #[.int .i64 0, .int .i64 0] 55) = W0 := ⟨_, rfl⟩
 have bW : Below w.heap.size w W0 := by rw [← hW0]; exact below2 _ _ _
 have zW : W0.heap.size = w.heap.size + 2 := by rw [← hW0]; simp
 have hbox : W0.cell? ⟨w.heap.size, 0, none⟩ = some (.slice a n c) := by rw [← hW0]; simp
 have x0 : W0.cell? ⟨w.heap.size + 1, 0, none⟩ = some (.int .i64 0) := by rw [← hW0]; simp
 have x1 : W0.cell? ⟨w.heap.size + 1, 1, none⟩ = some (.int .i64 0) := by rw [← hW0]; simp
 have f0 : W0.frozen? ⟨w.heap.size + 1, 0, none⟩ = false := by rw [← hW0]; simp
 have f1 : W0.frozen? ⟨w.heap.size + 1, 1, none⟩ = false := by rw [← hW0]; simp
 have h1 := h.below bW
 go_enter Tryz.func65, Tryz.ntmps65
 go_wp2_with fail
 try rw [hW0]
 go_loop [6, 7] (fun t i => ∃ k : Nat, k ≤ n ∧ i = .int .i64 k ∧ t = .int .i64 (topK R T rep k)) (fun _ i => n - (intOf i).toNat)
 case atStart => exact ⟨0, Nat.zero_le _, rfl, rfl⟩
 case round =>
  obtain ⟨k, hk, rfl, rfl⟩ := hrel
  have htk := topK_i64 (R := R) hT rep k
  by_cases hlt : k < n
  ·rcases h1 with h1 | ⟨b, off, rfl, hb, hc⟩
   ·omega
   have c0 := (hc k hlt).1
   have c2 := (hc k hlt).2.2
   clear hc h
   by_cases e1 : R k = rep
   ·have t1 : (R k == rep) = true := by simp; exact e1
    by_cases e2 : topK R T rep k < T k
    ·have HE := hid (top_hit e1 e2)
     have H1 := hid e1
     clear e1
     generalize topK R T rep k = tk at *
     go_wp2_with fail
     go_round
     case rel => exact ⟨k + 1, hlt, by go_num, vI HE.out.symm⟩
     case measure => simp [intOf]; omega
    ·have HE := hid (top_miss (R := R) (T := T) (rep := rep) (k := k) (fun hh => e2 hh.2))
     clear e1
     generalize topK R T rep k = tk at *
     go_wp2_with fail
     go_round
     case rel => exact ⟨k + 1, hlt, by go_num, vI HE.out.symm⟩
     case measure => simp [intOf]; omega
   ·have t1 : (R k == rep) = false := by simp; exact e1
    have HE := hid (top_miss (R := R) (T := T) (rep := rep) (k := k) (fun hh => e1 hh.1))
    clear e1
    generalize topK R T rep k = tk at *
    go_wp2_with fail
    go_round
    case rel => exact ⟨k + 1, hlt, by go_num, vI HE.out.symm⟩
    case measure => simp [intOf]; omega
  ·obtain rfl : k = n := by omega
   clear h hk
   cases hcx : ctxB R F T k with
   | false =>
    have HN : Hid (nextOk R F T rep k = false) := by unfold Hid nextOk; rw [hcx]; rfl
    obtain ⟨W3, hW3⟩ : ∃ W3, W0.alloc (.cells #[.int .i64 rep, .int .i64 (wrap64 (topK R T rep k + 1))] 55) = W3 := ⟨_, rfl⟩
    have b3 : Below W0.heap.size W0 W3 := by rw [← hW3]; exact (Below.refl _ _).alloc (Nat.le_refl _) _
    have z3 : W3.heap.size = w.heap.size + 3 := by rw [← hW3]; simp; omega
    have d0 : W3.cell? ⟨w.heap.size + 2, 0, none⟩ = some (.int .i64 rep) := by rw [← hW3, ← zW]; simp
    have d1 : W3.cell? ⟨w.heap.size + 2, 1, none⟩ = some (.int .i64 (wrap64 (topK R T rep k + 1))) := by rw [← hW3, ← zW]; simp
    have B03 := bW.trans (b3.mono (by omega))
    have y0 := (b3.cell (p := ⟨w.heap.size + 1, 0, none⟩) (show w.heap.size + 1 < W0.heap.size by omega)).trans x0
    have y1 := (b3.cell (p := ⟨w.heap.size + 1, 1, none⟩) (show w.heap.size + 1 < W0.heap.size by omega)).trans x1
    have g0 := (b3.frozen (p := ⟨w.heap.size + 1, 0, none⟩) (show w.heap.size + 1 < W0.heap.size by omega)).trans f0
    have g1 := (b3.frozen (p := ⟨w.heap.size + 1, 1, none⟩) (show w.heap.size + 1 < W0.heap.size by omega)).trans f1
    have hbox3 := (b3.cell (p := ⟨w.heap.size, 0, none⟩) (show w.heap.size < W0.heap.size by omega)).trans hbox
    have h3 := h1.below b3
    clear h1 b3 hW0
    go_wp2_with fail
    try rw [hW3]
    clear hW3 hbox hbox3 x0 x1 f0 f1
    refine (specOk a k c R F T _ hn h3).mono ?_
    rintro e w4 ⟨rfl, b4⟩
    rw [hcx]
    have z4 := b4.size
    have q0 := (b4.cell (p := ⟨w.heap.size + 1, 0, none⟩) (show w.heap.size + 1 < W3.heap.size by omega)).trans y0
    have q1 := (b4.cell (p := ⟨w.heap.size + 1, 1, none⟩) (show w.heap.size + 1 < W3.heap.size by omega)).trans y1
    have p0 := (b4.frozen (p := ⟨w.heap.size + 1, 0, none⟩) (show w.heap.size + 1 < W3.heap.size by omega)).trans g0
    have p1 := (b4.frozen (p := ⟨w.heap.size + 1, 1, none⟩) (show w.heap.size + 1 < W3.heap.size by omega)).trans g1
    have dd0 := (b4.cell (p := ⟨w.heap.size + 2, 0, none⟩) (show w.heap.size + 2 < W3.heap.size by omega)).trans d0
    have dd1 := (b4.cell (p := ⟨w.heap.size + 2, 1, none⟩) (show w.heap.size + 2 < W3.heap.size by omega)).trans d1
    have HB4 := hid (keepS B03 b4)
    clear y0 y1 g0 g1 d0 d1 h3 b4 B03 hcx
    go_wp2_with fail
    refine bodyPost_ret (v := .tuple #[.agg #[.int .i64 0, .int .i64 0], .bool false]) (by simp [results, Tryz.results65, go_sem, q0, q1]) rfl ⟨(fun h => by have := HN.out.symm.trans h; cases this), (fun _ => rfl), ?_⟩
    exact (HB4.out.setCell (by simp) _).setCell (by simp) _
   | true =>
    have htb := topK_bd hcx rep
    cases hdo : runOkB rep (topK R T rep k + 1) (topK R T rep k + 1) with
    | false =>
     have HN : Hid (nextOk R F T rep k = false) := by unfold Hid nextOk; rw [hcx, hdo]; rfl
     clear htk
     generalize hgt : topK R T rep k = tk at *
     have HT := hid hgt
     clear hgt
     obtain ⟨W3, hW3⟩ : ∃ W3, W0.alloc (.cells #[.int .i64 rep, .int .i64 (tk + 1)] 55) = W3 := ⟨_, rfl⟩
     have b3 : Below W0.heap.size W0 W3 := by rw [← hW3]; exact (Below.refl _ _).alloc (Nat.le_refl _) _
     have z3 : W3.heap.size = w.heap.size + 3 := by rw [← hW3]; simp; omega
     have d0 : W3.cell? ⟨w.heap.size + 2, 0, none⟩ = some (.int .i64 rep) := by rw [← hW3, ← zW]; simp
     have d1 : W3.cell? ⟨w.heap.size + 2, 1, none⟩ = some (.int .i64 (tk + 1)) := by rw [← hW3, ← zW]; simp
     have B03 := bW.trans (b3.mono (by omega))
     have y0 := (b3.cell (p := ⟨w.heap.size + 1, 0, none⟩) (show w.heap.size + 1 < W0.heap.size by omega)).trans x0
     have y1 := (b3.cell (p := ⟨w.heap.size + 1, 1, none⟩) (show w.heap.size + 1 < W0.heap.size by omega)).trans x1
     have g0 := (b3.frozen (p := ⟨w.heap.size + 1, 0, none⟩) (show w.heap.size + 1 < W0.heap.size by omega)).trans f0
     have g1 := (b3.frozen (p := ⟨w.heap.size + 1, 1, none⟩) (show w.heap.size + 1 < W0.heap.size by omega)).trans f1
     have hbox3 := (b3.cell (p := ⟨w.heap.size, 0, none⟩) (show w.heap.size < W0.heap.size by omega)).trans hbox
     have h3 := h1.below b3
     clear h1 b3 hW0
     go_wp2_with fail
     try rw [hW3]
     clear hW3 hbox hbox3 x0 x1 f0 f1
     refine (specOk a k c R F T _ hn h3).mono ?_
     rintro e w4 ⟨rfl, b4⟩
     rw [hcx]
     have z4 := b4.size
     have q0 := (b4.cell (p := ⟨w.heap.size + 1, 0, none⟩) (show w.heap.size + 1 < W3.heap.size by omega)).trans y0
     have q1 := (b4.cell (p := ⟨w.heap.size + 1, 1, none⟩) (show w.heap.size + 1 < W3.heap.size by omega)).trans y1
     have p0 := (b4.frozen (p := ⟨w.heap.size + 1, 0, none⟩) (show w.heap.size + 1 < W3.heap.size by omega)).trans g0
     have p1 := (b4.frozen (p := ⟨w.heap.size + 1, 1, none⟩) (show w.heap.size + 1 < W3.heap.size by omega)).trans g1
     have dd0 := (b4.cell (p := ⟨w.heap.size + 2, 0, none⟩) (show w.heap.size + 2 < W3.heap.size by omega)).trans d0
     have dd1 := (b4.cell (p := ⟨w.heap.size + 2, 1, none⟩) (show w.heap.size + 2 < W3.heap.size by omega)).trans d1
     have HB4 := hid (keepS B03 b4)
     clear y0 y1 g0 g1 d0 d1 h3 b4 B03 hcx
     go_wp2_with fail
     refine (dotOk rep (tk + 1) _).mono ?_
     rintro e w5 ⟨rfl, b5⟩
     rw [hdo]
     have q0' := (b5.cell (p := ⟨w.heap.size + 1, 0, none⟩) (show w.heap.size + 1 < w4.heap.size by omega)).trans q0
     have q1' := (b5.cell (p := ⟨w.heap.size + 1, 1, none⟩) (show w.heap.size + 1 < w4.heap.size by omega)).trans q1
     have p0' := (b5.frozen (p := ⟨w.heap.size + 1, 0, none⟩) (show w.heap.size + 1 < w4.heap.size by omega)).trans p0
     have p1' := (b5.frozen (p := ⟨w.heap.size + 1, 1, none⟩) (show w.heap.size + 1 < w4.heap.size by omega)).trans p1
     have HB5 := hid (keepS HB4.out b5)
     clear q0 q1 p0 p1 b5 hdo dd0 dd1
     go_wp2_with fail
     refine bodyPost_ret (v := .tuple #[.agg #[.int .i64 0, .int .i64 0], .bool false]) (by simp [results, Tryz.results65, go_sem, q0', q1']) rfl ⟨(fun h => by have := HN.out.symm.trans h; cases this), (fun _ => rfl), ?_⟩
     exact (HB5.out.setCell (by simp) _).setCell (by simp) _
    | true =>
     have HN : Hid (nextOk R F T rep k = true) := by unfold Hid nextOk; rw [hcx, hdo]; rfl
     clear htk
     generalize hgt : topK R T rep k = tk at *
     have HT := hid hgt
     clear hgt
     obtain ⟨W3, hW3⟩ : ∃ W3, W0.alloc (.cells #[.int .i64 rep, .int .i64 (tk + 1)] 55) = W3 := ⟨_, rfl⟩
     have b3 : Below W0.heap.size W0 W3 := by rw [← hW3]; exact (Below.refl _ _).alloc (Nat.le_refl _) _
     have z3 : W3.heap.size = w.heap.size + 3 := by rw [← hW3]; simp; omega
     have d0 : W3.cell? ⟨w.heap.size + 2, 0, none⟩ = some (.int .i64 rep) := by rw [← hW3, ← zW]; simp
     have d1 : W3.cell? ⟨w.heap.size + 2, 1, none⟩ = some (.int .i64 (tk + 1)) := by rw [← hW3, ← zW]; simp
     have B03 := bW.trans (b3.mono (by omega))
     have y0 := (b3.cell (p := ⟨w.heap.size + 1, 0, none⟩) (show w.heap.size + 1 < W0.heap.size by omega)).trans x0
     have y1 := (b3.cell (p := ⟨w.heap.size + 1, 1, none⟩) (show w.heap.size + 1 < W0.heap.size by omega)).trans x1
     have g0 := (b3.frozen (p := ⟨w.heap.size + 1, 0, none⟩) (show w.heap.size + 1 < W0.heap.size by omega)).trans f0
     have g1 := (b3.frozen (p := ⟨w.heap.size + 1, 1, none⟩) (show w.heap.size + 1 < W0.heap.size by omega)).trans f1
     have hbox3 := (b3.cell (p := ⟨w.heap.size, 0, none⟩) (show w.heap.size < W0.heap.size by omega)).trans hbox
     have h3 := h1.below b3
     clear h1 b3 hW0
     go_wp2_with fail
     try rw [hW3]
     clear hW3 hbox hbox3 x0 x1 f0 f1
     refine (specOk a k c R F T _ hn h3).mono ?_
     rintro e w4 ⟨rfl, b4⟩
     rw [hcx]
     have z4 := b4.size
     have q0 := (b4.cell (p := ⟨w.heap.size + 1, 0, none⟩) (show w.heap.size + 1 < W3.heap.size by omega)).trans y0
     have q1 := (b4.cell (p := ⟨w.heap.size + 1, 1, none⟩) (show w.heap.size + 1 < W3.heap.size by omega)).trans y1
     have p0 := (b4.frozen (p := ⟨w.heap.size + 1, 0, none⟩) (show w.heap.size + 1 < W3.heap.size by omega)).trans g0
     have p1 := (b4.frozen (p := ⟨w.heap.size + 1, 1, none⟩) (show w.heap.size + 1 < W3.heap.size by omega)).trans g1
     have dd0 := (b4.cell (p := ⟨w.heap.size + 2, 0, none⟩) (show w.heap.size + 2 < W3.heap.size by omega)).trans d0
     have dd1 := (b4.cell (p := ⟨w.heap.size + 2, 1, none⟩) (show w.heap.size + 2 < W3.heap.size by omega)).trans d1
     have HB4 := hid (keepS B03 b4)
     clear y0 y1 g0 g1 d0 d1 h3 b4 B03 hcx
     go_wp2_with fail
     refine (dotOk rep (tk + 1) _).mono ?_
     rintro e w5 ⟨rfl, b5⟩
     rw [hdo]
     have q0' := (b5.cell (p := ⟨w.heap.size + 1, 0, none⟩) (show w.heap.size + 1 < w4.heap.size by omega)).trans q0
     have q1' := (b5.cell (p := ⟨w.heap.size + 1, 1, none⟩) (show w.heap.size + 1 < w4.heap.size by omega)).trans q1
     have p0' := (b5.frozen (p := ⟨w.heap.size + 1, 0, none⟩) (show w.heap.size + 1 < w4.heap.size by omega)).trans p0
     have p1' := (b5.frozen (p := ⟨w.heap.size + 1, 1, none⟩) (show w.heap.size + 1 < w4.heap.size by omega)).trans p1
     have dd0' := (b5.cell (p := ⟨w.heap.size + 2, 0, none⟩) (show w.heap.size + 2 < w4.heap.size by omega)).trans dd0
     have dd1' := (b5.cell (p := ⟨w.heap.size + 2, 1, none⟩) (show w.heap.size + 2 < w4.heap.size by omega)).trans dd1
     have HB5 := hid (keepS HB4.out b5)
     clear q0 q1 p0 p1 b5 hdo dd0 dd1
     go_wp2_with fail
     refine bodyPost_ret (v := .tuple #[.agg #[.int .i64 rep, .int .i64 (tk + 1)], .bool true]) (by simp [results, Tryz.results65, go_sem, q0', q1']) rfl ⟨(fun _ => by rw [HT.out]), (fun h => by have := HN.out.symm.trans h; cases this), ?_⟩
     exact (HB5.out.setCell (by simp) _).setCell (by simp) _
theorem runNext {w : World} {bm n : Nat} {D : DataW Value} {G : Int → Value} {L : Int → List (Int × Int)} (h : GrpAt w bm n D G L) (r tk : Int) (hr : (Lit.int .i64 r).wf = true) (hl : (L r).length ≤ 1000000) (ht : lastTo (L r) = tk) (h0 : 0 ≤ tk) (h1 : tk ≤ 1000000000) :
  Calls Tryz.prog 66 #[.map (some bm), .int .i64 r] w fun e w' =>
   ((0 ≤ r ∧ r < 8) ∧ tk + 1 ≤ 1000000000 → e = .returned (.tuple #[.agg #[.int .i64 r, .int .i64 (tk + 1)], .bool true])) ∧ (¬ ((0 ≤ r ∧ r < 8) ∧ tk + 1 ≤ 1000000000) → e = .returned (.tuple #[.agg #[.int .i64 0, .int .i64 0], .bool false])) ∧ Below w.heap.size w w' := by
 obtain ⟨W0, hW0⟩ : ∃ W0, w.alloc (.cells #[.int .i64 0, .int .i64 0] 55) = W0 := ⟨_, rfl⟩
 have bW : Below w.heap.size w W0 := by rw [← hW0]; exact (Below.refl _ _).alloc (Nat.le_refl _) _
 have x0 : W0.cell? ⟨w.heap.size, 0, none⟩ = some (.int .i64 0) := by rw [← hW0]; simp
 have x1 : W0.cell? ⟨w.heap.size, 1, none⟩ = some (.int .i64 0) := by rw [← hW0]; simp
 have f0 : W0.frozen? ⟨w.heap.size, 0, none⟩ = false := by rw [← hW0]; simp
 have f1 : W0.frozen? ⟨w.heap.size, 1, none⟩ = false := by rw [← hW0]; simp
 have HG := hid (greatest (h.below bW) r hr hl)
 have HB := hid bW
 rw [ht] at HG
 clear h bW ht hl
 go_enter Tryz.func66, Tryz.ntmps66
 go_wp2_with fail
 try rw [hW0]
 clear hW0
 refine HG.out.mono ?_
 rintro e w1 ⟨rfl, rfl⟩
 clear HG
 by_cases hr8 : 0 ≤ r ∧ r < 8
 ·have HR := hid (repOk_yes r w1 hr8.1 hr8.2)
  by_cases hs : tk + 1 ≤ 1000000000
  ·go_wp2_with fail
   refine HR.out.mono ?_
   rintro e w5 ⟨rfl, rfl⟩
   go_wp2_with fail
   refine bodyPost_ret (v := .tuple #[.agg #[.int .i64 r, .int .i64 (tk + 1)], .bool true]) (by simp [results, Tryz.results66, go_sem, x0, x1]) rfl ⟨(fun _ => rfl), (fun h => by exfalso; omega), ?_⟩
   exact (HB.out.setCell (by simp) _).setCell (by simp) _
  ·go_wp2_with fail
   refine HR.out.mono ?_
   rintro e w5 ⟨rfl, rfl⟩
   go_wp2_with fail
   refine bodyPost_ret (v := .tuple #[.agg #[.int .i64 0, .int .i64 0], .bool false]) (by simp [results, Tryz.results66, go_sem, x0, x1]) rfl ⟨(fun h => by exfalso; omega), (fun _ => rfl), ?_⟩
   exact (HB.out.setCell (by simp) _).setCell (by simp) _
 ·have HR := hid (repOk_no r w1 hr8)
  go_wp2_with fail
  refine HR.out.mono ?_
  rintro e w5 ⟨rfl, rfl⟩
  go_wp2_with fail
  refine bodyPost_ret (v := .tuple #[.agg #[.int .i64 0, .int .i64 0], .bool false]) (by simp [results, Tryz.results66, go_sem, x0, x1]) rfl ⟨(fun h => by exfalso; omega), (fun _ => rfl), ?_⟩
  exact (HB.out.setCell (by simp) _).setCell (by simp) _
theorem putX (X : Nat) (p : List ByteArray) (a : Option Addr) (cp : Nat) (k : Int) (r q : Int) (s : ByteArray) (B c : Nat) (N : List Ky → Option (Nat × Nat)) (M : List Ky → Dt → Option ByteArray) (x0 : Nat × Nat) (w : World)
  (hp : p.length ≤ 1048576) (hs : ∀ i, (gS p i).size ≤ 1048576) (hk : (Lit.int .i64 k).wf = true) (hr : (Lit.int .i64 r).wf = true) (hq : (Lit.int .i64 q).wf = true) (hc : c ≤ 1073741824) (hB : B ≤ w.heap.size) (h : SSeg w a p) (hT : Tre w B N M c) (h0 : N [] = some x0) (hX : X < w.heap.size) (hXN : ∀ z x, N z = some x → x.1 ≠ X ∧ x.2 ≠ X) :
  Calls Tryz.prog 67 #[.agg #[.map (some x0.1), .map (some x0.2)], .slice a p.length cp, .int .i64 k, .agg #[.int .i64 r, .int .i64 q], .agg #[.string s]] w fun e w' => e = .returned (.tuple #[]) ∧ Gt B w w' ∧ w'.heap[X]? = w.heap[X]? ∧
   ∃ N', Tre w' B N' (updM M (wayOf p k) (r, q) s) (c + p.length + 1) ∧ N' [] = some x0 ∧ ∀ z, (N' z).isSome = true ↔ (N z).isSome = true ∨ z <+: wayOf p k := by
 obtain ⟨W, hW⟩ : ∃ W, ((w.alloc (.cells #[.map (some x0.1), .map (some x0.2)] 64)).alloc (.cells #[.int .i64 r, .int .i64 q] 55)).alloc (.cells #[.string s] 80) = W := ⟨_, rfl⟩
 have b0 : Below w.heap.size w W := by rw [← hW]; exact (((Below.refl _ _).alloc (Nat.le_refl _) _).alloc (by simp) _).alloc (by simp; omega) _
 have P0 : PB W w.heap.size x0 r q s := by
  have d1 := Bx2.made (w.alloc (.cells #[.map (some x0.1), .map (some x0.2)] 64)) (.int .i64 r) (.int .i64 q) 55
  have m1 := Bx1.made ((w.alloc (.cells #[.map (some x0.1), .map (some x0.2)] 64)).alloc (.cells #[.int .i64 r, .int .i64 q] 55)) (.string s) 80
  rw [← hW]
  exact ⟨((Bx2.made w _ _ _).allocs _).allocs _, by simpa using d1.allocs _, by simpa using m1⟩
 have HX0 : Hid (W.heap[X]? = w.heap[X]?) := hid (b0.block X hX)
 have HXN0 := hid hXN
 have HXL := hid hX
 have HS := hid h
 have HP0 := hid P0
 have HT0 := hid (hT.below b0)
 have HG0 := hid (Gt.of_below (B := B) b0)
 have H0 := hid h0
 have HB := hid hB
 have Hs := hid hs
 clear h hT h0 b0 P0 hs hB hX hXN
 go_enter Tryz.func67, Tryz.ntmps67
 go_wp2_with fail
 try rw [hW]
 clear hW
 go_loopw [16] (fun i wr => ∃ j : Nat, j ≤ p.length ∧ i = .int .i64 j ∧ Hid (Gt B w wr) ∧ (∃ Nk x, Hid (Tre wr B Nk M (c + j)) ∧ Hid (Nk [] = some x0) ∧ Hid (Nk ((wayOf p k).take j) = some x) ∧ Hid (∀ z, (Nk z).isSome = true ↔ (N z).isSome = true ∨ z <+: (wayOf p k).take j) ∧ Hid (PB wr w.heap.size x r q s) ∧ Hid (wr.heap[X]? = w.heap[X]?) ∧ Hid (∀ z x, Nk z = some x → x.1 ≠ X ∧ x.2 ≠ X))) (fun i _ => p.length - (intOf i).toNat)
 case atStart =>
  refine ⟨0, Nat.zero_le _, rfl, HG0, N, x0, HT0, H0, hid (by simpa using H0.out), hid (fun z => ?_), HP0, HX0, HXN0⟩
  simp only [List.take_zero, List.prefix_nil]
  exact ⟨fun h => .inl h, fun h => h.elim id (fun e => by rw [e, H0.out]; rfl)⟩
 case round =>
  clear HT0 HG0 HP0 HX0 HXN0
  obtain ⟨j, hj, rfl, HG, Nk, x, HT, HN0, HNk, HI, HP, HX, HXN⟩ := hrel
  have HXR : Hid (X < wr.heap.size) := hid (Nat.lt_of_lt_of_le HXL.out HG.out.size)
  have HXW : Hid (w.heap.size ≠ X) := hid (by have := HXL.out; omega)
  by_cases hlt : j < p.length
  ·have i1 : (0 : Int) ≤ (j : Int) := Int.natCast_nonneg _
   have i2 : (j : Int) < (p.length : Int) := by omega
   have HKW := hid (keyOnWay p a cp k j wr hp hlt (HS.out.gt HG.out))
   obtain ⟨nm, kd, hkey⟩ : ∃ nm kd, onWay p k j = (nm, kd) := ⟨_, _, rfl⟩
   have HKey := hid hkey
   rw [hkey] at HKW
   obtain ⟨kl, hkl⟩ : ∃ kl, keyOf Tryz.prog 140 (keyV (nm, kd)) = some kl := by
    unfold onWay at hkey
    have e1 := (Prod.mk.inj hkey).1
    have e2 := (Prod.mk.inj hkey).2
    refine keyKey ?_ ?_
    ·rw [← e1]; have := Hs.out j; unfold maxLen; omega
    ·rw [← e2]; split
     ·decide
     ·exact hk
   have HKL := hid hkl
   clear hkey hkl
   dsimp only [keyV] at HKW
   go_wp2_with fail
   refine HKW.out.mono ?_
   rintro e w1 ⟨rfl, b1⟩
   obtain ⟨w2, hw2⟩ : ∃ w2, w1.alloc (.cells #[.string nm, .int .i64 kd] 140) = w2 := ⟨_, rfl⟩
   have b2 : Below wr.heap.size wr w2 := by rw [← hw2]; exact b1.alloc b1.size _
   have HK2 : Bx2 w2 w1.heap.size (.string nm) (.int .i64 kd) := by rw [← hw2]; exact Bx2.made _ _ _ _
   have HP2 := HP.out.below b2
   have HT2 := hid (HT.out.below b2)
   have HG2 := hid (HG.out.keep b2)
   have HX2 : Hid (w2.heap[X]? = w.heap[X]?) := hid ((b2.block X HXR.out).trans HX.out)
   have HXR2 : Hid (X < w2.heap.size) := hid (Nat.lt_of_lt_of_le HXR.out b2.size)
   have e0 := HP2.n.c0
   have e1 := HK2.c0
   have e2 := HK2.c1
   have HPk := hid HP2
   have HKB := hid HK2
   have HPz : Hid (w.heap.size + 2 < w2.heap.size) := hid HP2.m.lt
   have hlk := (HT2.out.kids _ x HNk.out).look_ok (mt := 61) keyKeyed Tryz.underlying61 (zeroNode w2) HKL.out
   clear HK2 HP2 b1 b2 HKW HT HG HP
   dsimp only [keyV] at hlk
   have hst : (wayOf p k).take (j + 1) = (wayOf p k).take j ++ [(nm, kd)] := by rw [wayOf_take hlt]; have := HKey.out; unfold onWay at this; rw [this]
   have HST := hid hst
   clear hst
   cases hNy : Nk ((wayOf p k).take j ++ [(nm, kd)]) with
   | some y =>
    rw [hNy] at hlk
    dsimp only [nodV, Option.isSome] at hlk
    have HNy := hid hNy
    clear hNy
    obtain ⟨w3, hw3⟩ : ∃ w3, w2.alloc (.cells #[.map (some y.1), .map (some y.2)] 64) = w3 := ⟨_, rfl⟩
    have b3 : Below w2.heap.size w2 w3 := by rw [← hw3]; exact (Below.refl _ _).alloc (Nat.le_refl _) _
    have KB : Bx2 w3 w2.heap.size (.map (some y.1)) (.map (some y.2)) := by rw [← hw3]; exact Bx2.made _ _ _ _
    have g0 := KB.c0
    have g1 := KB.c1
    have P3 := HPk.out.below b3
    have n0 := P3.n.c0
    have n1 := P3.n.c1
    have f0 := P3.n.f 0
    have f1 := P3.n.f 1
    have HT3 := hid ((HT2.out.below b3).set (q := ⟨w.heap.size, 0, none⟩) (.map (some y.1)) n0)
    have HT4 := hid (HT3.out.set (q := ⟨w.heap.size, 1, none⟩) (.map (some y.2)) ((P3.n.set0 _).c1))
    have HG3 := hid (((HG2.out.keep b3).set ⟨w.heap.size, 0, none⟩ (.map (some y.1)) (Nat.le_refl _)).set ⟨w.heap.size, 1, none⟩ (.map (some y.2)) (Nat.le_refl _))
    have HP4 := hid (P3.set y)
    have HX4 : Hid (((w3.setCell ⟨w.heap.size, 0, none⟩ (.map (some y.1))).setCell ⟨w.heap.size, 1, none⟩ (.map (some y.2))).heap[X]? = w.heap[X]?) := hid (by
     rw [Below.heap_setCell _ _ _ _ (by exact HXW.out.symm), Below.heap_setCell _ _ _ _ (by exact HXW.out.symm)]
     exact (b3.block X HXR2.out).trans HX2.out)
    clear b3 KB P3 HT3
    go_wp2_with fail
    go_roundw
    case rel =>
     refine ⟨j + 1, hlt, by go_num, HG3, Nk, y, hid (HT4.out.mono (by omega)), HN0, hid (by rw [HST.out]; exact HNy.out), hid (fun z => ?_), HP4, HX4, HXN⟩
     rw [HI.out z, take_pre HST.out]
     constructor
     ·rintro (e | e)
      ·exact .inl e
      ·exact .inr (.inl e)
     ·rintro (e | e | e)
      ·exact .inl e
      ·exact .inr e
      ·exact (HI.out z).1 (by rw [e, HNy.out]; rfl)
    case measure => simp [intOf]; omega
   | none =>
    rw [hNy] at hlk
    dsimp only [nodV, Option.isSome] at hlk
    have HNy := hid hNy
    clear hNy
    obtain ⟨w3, hw3⟩ : ∃ w3, w2.alloc (.cells #[.map none, .map none] 64) = w3 := ⟨_, rfl⟩
    have b3 : Below w2.heap.size w2 w3 := by rw [← hw3]; exact (Below.refl _ _).alloc (Nat.le_refl _) _
    have KB : Bx2 w3 w2.heap.size (.map none) (.map none) := by rw [← hw3]; exact Bx2.made _ _ _ _
    have HKB3 := hid KB
    have HKY3 := hid (HKB.out.below b3 HKB.out.lt)
    have HP3 := hid (HPk.out.below b3)
    have HT3 := hid (HT2.out.below b3)
    have HG3 := hid (HG2.out.keep b3)
    have HZ3 := hid b3.size
    have HX3 : Hid (w3.heap[X]? = w.heap[X]?) := hid ((b3.block X HXR2.out).trans HX2.out)
    have HXR3 : Hid (X < w3.heap.size) := hid (Nat.lt_of_lt_of_le HXR2.out b3.size)
    have HW3 := hid hw3
    clear b3 KB HPk HT2 HG2 HKB hw3
    go_wp2_with fail
    rw [HW3.out]
    refine (newNode w3).mono ?_
    rintro e w4 ⟨s1, s2, rfl, hss, hs1, hs2, m1, m2, b4⟩
    have KB4 := HKB3.out.below b4 HKB3.out.lt
    have g0 := KB4.c0
    have g1 := KB4.c1
    have h0 := KB4.f 0
    have h1 := KB4.f 1
    obtain ⟨w5, hw5⟩ : ∃ w5, (w4.setCell ⟨w2.heap.size, 0, none⟩ (.map (some s1))).setCell ⟨w2.heap.size, 1, none⟩ (.map (some s2)) = w5 := ⟨_, rfl⟩
    have zw1 : w1.heap.size < w3.heap.size := HKY3.out.lt
    have zw0 := HP3.out.m.lt
    have hne1 : w2.heap.size ≠ w1.heap.size := by rw [← hw2]; simp
    have hP5 : PB w5 w.heap.size x r q s ∧ w.heap.size + 2 < w2.heap.size := by
     have hz : w.heap.size + 2 < w2.heap.size := HPz.out
     rw [← hw5]
     exact ⟨((HP3.out.below b4).setAt _ _ hz).setAt _ _ hz, hz⟩
    have K5 : Bx2 w5 w2.heap.size (.map (some s1)) (.map (some s2)) := by rw [← hw5]; exact KB4.set _ _
    have Y5 : Bx2 w5 w1.heap.size (.string nm) (.int .i64 kd) := by rw [← hw5]; exact ((HKY3.out.below b4 HKY3.out.lt).setAt _ _ hne1).setAt _ _ hne1
    have T5 : Tre w5 B Nk M (c + j) := by rw [← hw5]; exact ((HT3.out.below b4).set _ g0).set _ (KB4.set0 _).c1
    have G5 : Gt B w w5 := by rw [← hw5]; exact ((HG3.out.keep b4).set _ _ (by show w.heap.size ≤ w2.heap.size; omega)).set _ _ (by show w.heap.size ≤ w2.heap.size; omega)
    have X5 : w5.heap[X]? = w.heap[X]? := by
     have hxz : X ≠ w2.heap.size := by have := HXR2.out; omega
     rw [← hw5, Below.heap_setCell _ _ _ _ hxz, Below.heap_setCell _ _ _ _ hxz]
     exact (b4.block X HXR3.out).trans HX3.out
    have hz5 : w4.heap.size = w5.heap.size := by rw [← hw5]; simp [World.setCell]
    have HXN6 : Hid (∀ z x, updF Nk ((wayOf p k).take j ++ [(nm, kd)]) (some (s1, s2)) z = some x → x.1 ≠ X ∧ x.2 ≠ X) := hid (fun z y hy => by
     have h3 := HXR3.out
     by_cases ez : z = (wayOf p k).take j ++ [(nm, kd)]
     ·rw [ez, updF_same] at hy
      injection hy with hy
      subst hy
      exact ⟨by show s1 ≠ X; omega, by show s2 ≠ X; omega⟩
     ·rw [updF_other _ _ ez] at hy
      exact HXN.out z y hy)
    have hn1 : s1 ≠ w2.heap.size := by intro e; have := HKB3.out.lt; omega
    have hn2 : s2 ≠ w2.heap.size := by intro e; have := HKB3.out.lt; omega
    have M1 : MapF w5 140 (α := Ky) keyV nodV s1 0 (fun _ => none) := by rw [← hw5]; exact (m1.same (Below.heap_setCell _ _ _ _ hn1)).same (Below.heap_setCell _ _ _ _ hn1)
    have M2 : MapF w5 55 (α := Dt) dtV mrkV s2 0 (fun _ => none) := by rw [← hw5]; exact (m2.same (Below.heap_setCell _ _ _ _ hn2)).same (Below.heap_setCell _ _ _ _ hn2)
    have c1 := hP5.1.n.c0
    have c2 := Y5.c0
    have c3 := Y5.c1
    have c4 := K5.c0
    have c5 := K5.c1
    have HU : Hid (∀ w6, MapF w6 140 keyV nodV x.1 (c + j + 1) (updF (fun z => Nk ((wayOf p k).take j ++ [z])) (nm, kd) (some (s1, s2))) → w5.grownBy w6 (some x.1) → Tre w6 B (updF Nk ((wayOf p k).take j ++ [(nm, kd)]) (some (s1, s2))) M (c + j + 1) ∧ Gt B w w6 ∧ PB w6 w.heap.size x r q s ∧ Bx2 w6 w2.heap.size (.map (some s1)) (.map (some s2)) ∧ w6.heap[X]? = w.heap[X]?) := hid (fun w6 hu hg => by
     have hlo := (T5.lo _ x HNk.out).1
     have hg6 := Gt.grown hg hlo (T5.kids _ x HNk.out).obj
     refine ⟨T5.add HNk.out HNy.out M1 M2 hss (fun q z hz => ?_) ⟨by have := HB.out; omega, by have := HB.out; omega⟩ hu hg, G5.trans hg6, hP5.1.gt hg6, K5.gt hg6, (hg.block X (by have := HXR3.out; have := b4.size; omega) (fun e => (HXN.out _ x HNk.out).1 (Option.some.inj e).symm)).trans X5⟩
     have := HT3.out.lt hz
     exact ⟨by omega, by omega, by omega, by omega⟩)
    have HMF := hid (T5.kids _ x HNk.out)
    clear hP5 X5 hz5 K5 Y5 T5 G5 M1 M2 m1 m2 b4 KB4 HKB3 HKY3 HP3 HT3 HG3
    go_wp2_with (refine wpList_mapUpdate_F _ rfl _ _ _ 61 rfl 140 64 keyKeyed keyV (fun _ _ => keyV_inj) Tryz.underlying61 nodV x.1 (c + j) (fun z => Nk ((wayOf p k).take j ++ [z])) rfl HMF.out (by unfold maxLen; omega) (nm, kd) (s1, s2) kl rfl rfl HKL.out ?_; intro w6 hu hg; obtain ⟨T6, G6, P6, K6, X6⟩ := HU.out w6 hu hg; have HX6 := hid X6; clear X6; have HT6 := hid T6; have HG6 := hid G6; have HP6 := hid P6; have t0 := P6.n.c0; have t1 := P6.n.c1; have t2 := P6.n.f 0; have t3 := P6.n.f 1; have t4 := K6.c0; have t5 := K6.c1; clear hu hg T6 G6 P6 K6)
    go_roundw
    case rel =>
     have T7 := (HT6.out.set (q := ⟨w.heap.size, 0, none⟩) (.map (some s1)) t0).set (q := ⟨w.heap.size, 1, none⟩) (.map (some s2)) (HP6.out.n.set0 _).c1
     refine ⟨j + 1, hlt, by go_num, hid ((HG6.out.set _ _ (Nat.le_refl _)).set _ _ (Nat.le_refl _)), updF Nk ((wayOf p k).take j ++ [(nm, kd)]) (some (s1, s2)), (s1, s2), hid T7, hid ?_, hid ?_, hid (fun z => ?_), hid (HP6.out.set (s1, s2)), hid ?_, HXN6⟩
     ·rw [updF_other _ _ (by simp)]; exact HN0.out
     ·rw [HST.out, updF_same]
     ·rw [take_pre HST.out]
      by_cases ez : z = (wayOf p k).take j ++ [(nm, kd)]
      ·rw [ez, updF_same]
       exact ⟨fun _ => .inr (.inr rfl), fun _ => rfl⟩
      ·rw [updF_other _ _ ez, HI.out z]
       constructor
       ·rintro (h | h)
        ·exact .inl h
        ·exact .inr (.inl h)
       ·rintro (h | h | h)
        ·exact .inl h
        ·exact .inr h
        ·exact absurd h ez
     ·rw [Below.heap_setCell _ _ _ _ (by exact HXW.out.symm), Below.heap_setCell _ _ _ _ (by exact HXW.out.symm)]
      exact HX6.out
    case measure => simp [intOf]; omega
  ·obtain rfl : j = p.length := by omega
   have htk : (wayOf p k).take p.length = wayOf p k := List.take_of_length_le (by rw [wayOf_len]; exact Nat.le_refl _)
   rw [htk] at HNk HI
   obtain ⟨kl, hkl⟩ : ∃ kl, keyOf Tryz.prog 55 (dtV (r, q)) = some kl := dotKey hr hq
   have HKL := hid hkl
   have c0 := HP.out.n.c1
   have c1 := HP.out.d.c0
   have c2 := HP.out.d.c1
   have c3 := HP.out.m.c0
   have HMF := hid (HT.out.marks _ x HNk.out)
   have HU : Hid (∀ w6, MapF w6 55 dtV mrkV x.2 (c + p.length + 1) (updF (M (wayOf p k)) (r, q) (some s)) → wr.grownBy w6 (some x.2) → Tre w6 B Nk (updM M (wayOf p k) (r, q) s) (c + p.length + 1) ∧ Gt B w w6 ∧ w6.heap[X]? = w.heap[X]?) := hid (fun w6 hu hg =>
     ⟨HT.out.mark HNk.out hu hg, HG.out.trans (Gt.grown hg (HT.out.lo _ x HNk.out).2 (HT.out.marks _ x HNk.out).obj), (hg.block X HXR.out (fun e => (HXN.out _ x HNk.out).2 (Option.some.inj e).symm)).trans HX.out⟩)
   clear htk hkl HT HG HP
   go_wp2_with (refine wpList_mapUpdate_F _ rfl _ _ _ 62 rfl 55 80 dotKeyed dtV (fun _ _ => dtV_inj) Tryz.underlying62 mrkV x.2 (c + p.length) (M (wayOf p k)) rfl HMF.out (by unfold maxLen; omega) (r, q) s kl rfl rfl HKL.out ?_; intro w6 hu hg; obtain ⟨T6, G6, X6⟩ := HU.out w6 hu hg; have HX6 := hid X6; clear X6; have HT6 := hid T6; have HG6 := hid G6; clear hu hg T6 G6)
   go_end0
   exact ⟨rfl, HG6.out, HX6.out, Nk, HT6.out, HN0.out, HI.out⟩
end Go.Proofs.YtcbcabhjododoaaGreat
