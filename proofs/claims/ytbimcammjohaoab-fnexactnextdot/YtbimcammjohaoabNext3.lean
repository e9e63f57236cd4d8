import Derived.Test.YtbimcammjohaoabNext2
namespace Go.Proofs.Ytbimcammjohaoab
open Go.ChangeShapes Go.WideShapes Go.ChangeAt Go.RowKit Go.Maps
set_option linter.unusedVariables false
set_option linter.unusedSimpArgs false

set_option maxRecDepth 100000 in
set_option maxHeartbeats 1000000 in
theorem runNext {w : World} {bm n : Nat} {D : DataW Value} {G : Int → Value} {L : Int → List (Int × Int)} (h : GrpAt w bm n D G L) (r tk : Int) (hr : (Lit.int .i64 r).wf = true) (hl : (L r).length ≤ 1000000) (ht : lastTo (L r) = tk) (h0 : 0 ≤ tk) (h1 : tk ≤ 1000000000) :
    Calls Try.prog 32 #[.map (some bm), .int .i64 r] w fun e w' =>
      ((0 ≤ r ∧ r < 8) ∧ tk + 1 ≤ 1000000000 → e = .returned (.tuple #[.agg #[.int .i64 r, .int .i64 (tk + 1)], .bool true])) ∧ (¬ ((0 ≤ r ∧ r < 8) ∧ tk + 1 ≤ 1000000000) → e = .returned (.tuple #[.agg #[.int .i64 0, .int .i64 0], .bool false])) ∧ Below w.heap.size w w' := by
  obtain ⟨W0, hW0⟩ : ∃ W0, w.alloc (.cells #[.int .i64 0, .int .i64 0] 37) = W0 := ⟨_, rfl⟩
  have bW : Below w.heap.size w W0 := by rw [← hW0]; exact (Below.refl _ _).alloc (Nat.le_refl _) _
  have x0 : W0.cell? ⟨w.heap.size, 0, none⟩ = some (.int .i64 0) := by rw [← hW0]; simp
  have x1 : W0.cell? ⟨w.heap.size, 1, none⟩ = some (.int .i64 0) := by rw [← hW0]; simp
  have f0 : W0.frozen? ⟨w.heap.size, 0, none⟩ = false := by rw [← hW0]; simp
  have f1 : W0.frozen? ⟨w.heap.size, 1, none⟩ = false := by rw [← hW0]; simp
  have HG := hid (greatest (h.below bW) r hr hl)
  have HB := hid bW
  rw [ht] at HG
  clear h bW ht hl
  go_enter Try.func32, Try.ntmps32
  go_wp2_with fail
  try rw [hW0]
  clear hW0
  refine HG.out.mono ?_
  rintro e w1 ⟨rfl, rfl⟩
  clear HG
  by_cases hr8 : 0 ≤ r ∧ r < 8
  · have HR := hid (repOk_yes r w1 hr8.1 hr8.2)
    by_cases hs : tk + 1 ≤ 1000000000
    · go_wp2_with fail
      refine HR.out.mono ?_
      rintro e w5 ⟨rfl, rfl⟩
      go_wp2_with fail
      refine bodyPost_ret (v := .tuple #[.agg #[.int .i64 r, .int .i64 (tk + 1)], .bool true]) (by simp [results, Try.results32, go_sem, x0, x1]) rfl ⟨(fun _ => rfl), (fun h => by exfalso; omega), ?_⟩
      exact (HB.out.setCell (by simp) _).setCell (by simp) _
    · go_wp2_with fail
      refine HR.out.mono ?_
      rintro e w5 ⟨rfl, rfl⟩
      go_wp2_with fail
      refine bodyPost_ret (v := .tuple #[.agg #[.int .i64 0, .int .i64 0], .bool false]) (by simp [results, Try.results32, go_sem, x0, x1]) rfl ⟨(fun h => by exfalso; omega), (fun _ => rfl), ?_⟩
      exact (HB.out.setCell (by simp) _).setCell (by simp) _
  · have HR := hid (repOk_no r w1 hr8)
    go_wp2_with fail
    refine HR.out.mono ?_
    rintro e w5 ⟨rfl, rfl⟩
    go_wp2_with fail
    refine bodyPost_ret (v := .tuple #[.agg #[.int .i64 0, .int .i64 0], .bool false]) (by simp [results, Try.results32, go_sem, x0, x1]) rfl ⟨(fun h => by exfalso; omega), (fun _ => rfl), ?_⟩
    exact (HB.out.setCell (by simp) _).setCell (by simp) _

set_option maxRecDepth 100000 in
set_option maxHeartbeats 1000000 in
theorem implNext (a : Option Addr) (n c : Nat) (R F T : Nat → Int) (rep : Int) (w : World) (hn : n ≤ 1048576) (h : RSeg w a n R F T) (hT : I64 T) (hrep : (Lit.int .i64 rep).wf = true) :
    Calls Try.prog 18 #[.agg #[.slice a n c], .int .i64 rep] w fun e w' =>
      (nextOk R F T rep n = true → e = .returned (.tuple #[.agg #[.int .i64 rep, .int .i64 (topK R T rep n + 1)], .bool true])) ∧ (nextOk R F T rep n = false → e = .returned (.tuple #[.agg #[.int .i64 0, .int .i64 0], .bool false])) ∧ Below w.heap.size w w' := by
  obtain ⟨W0, hW0⟩ : ∃ W0, (w.alloc (.cells #[.slice a n c] 29)).alloc (.cells #[.int .i64 0, .int .i64 0] 37) = W0 := ⟨_, rfl⟩
  have bW : Below w.heap.size w W0 := by rw [← hW0]; exact below2 _ _ _
  have zW : W0.heap.size = w.heap.size + 2 := by rw [← hW0]; simp
  have hbox : W0.cell? ⟨w.heap.size, 0, none⟩ = some (.slice a n c) := by rw [← hW0]; simp
  have x0 : W0.cell? ⟨w.heap.size + 1, 0, none⟩ = some (.int .i64 0) := by rw [← hW0]; simp
  have x1 : W0.cell? ⟨w.heap.size + 1, 1, none⟩ = some (.int .i64 0) := by rw [← hW0]; simp
  have f0 : W0.frozen? ⟨w.heap.size + 1, 0, none⟩ = false := by rw [← hW0]; simp
  have f1 : W0.frozen? ⟨w.heap.size + 1, 1, none⟩ = false := by rw [← hW0]; simp
  have h1 := h.below bW
  clear h
  cases hcx : ctxB R F T n with
  | false =>
    have HN : Hid (nextOk R F T rep n = false) := by unfold Hid nextOk; rw [hcx]; rfl
    go_enter Try.func18, Try.ntmps18
    go_wp2_with fail
    try rw [hW0]
    clear hW0
    refine (openC_no a n c R F T _ hn h1 hcx).mono ?_
    rintro e w4 ⟨rfl, b4⟩
    have q0 := (b4.cell (p := ⟨w.heap.size + 1, 0, none⟩) (show w.heap.size + 1 < W0.heap.size by omega)).trans x0
    have q1 := (b4.cell (p := ⟨w.heap.size + 1, 1, none⟩) (show w.heap.size + 1 < W0.heap.size by omega)).trans x1
    have p0 := (b4.frozen (p := ⟨w.heap.size + 1, 0, none⟩) (show w.heap.size + 1 < W0.heap.size by omega)).trans f0
    have p1 := (b4.frozen (p := ⟨w.heap.size + 1, 1, none⟩) (show w.heap.size + 1 < W0.heap.size by omega)).trans f1
    have HB4 := hid (keepS bW b4)
    clear x0 x1 f0 f1 hbox b4 bW h1 hcx
    go_wp2_with fail
    refine bodyPost_ret (v := .tuple #[.agg #[.int .i64 0, .int .i64 0], .bool false]) (by simp [results, Try.results18, go_sem, q0, q1]) rfl ⟨(fun h => by have := HN.out.symm.trans h; cases this), (fun _ => rfl), ?_⟩
    exact (HB4.out.setCell (by simp) _).setCell (by simp) _
  | true =>
    have htb := topK_bd hcx rep
    have htop := (Lk_inv n (ctxB_iff.1 hcx).1).2.2.1 rep
    have hlen := Lk_len R F T n rep
    have hn1 := (ctxB_iff.1 hcx).2
    have HT := hid htop
    have hno : nextOk R F T rep n = runOkB rep (topK R T rep n + 1) (topK R T rep n + 1) := by unfold nextOk; rw [hcx]; rfl
    have HNO := hid hno
    clear htop hno
    go_enter Try.func18, Try.ntmps18
    go_wp2_with fail
    try rw [hW0]
    clear hW0
    refine (openC a n c R F T _ hn h1 hcx).mono ?_
    rintro e w4 ⟨bm, D, G, rfl, hgrp, hbm, b4⟩
    have q0 := (b4.cell (p := ⟨w.heap.size + 1, 0, none⟩) (show w.heap.size + 1 < W0.heap.size by omega)).trans x0
    have q1 := (b4.cell (p := ⟨w.heap.size + 1, 1, none⟩) (show w.heap.size + 1 < W0.heap.size by omega)).trans x1
    have p0 := (b4.frozen (p := ⟨w.heap.size + 1, 0, none⟩) (show w.heap.size + 1 < W0.heap.size by omega)).trans f0
    have p1 := (b4.frozen (p := ⟨w.heap.size + 1, 1, none⟩) (show w.heap.size + 1 < W0.heap.size by omega)).trans f1
    have HB4 := hid (keepS bW b4)
    have z4 := b4.size
    have HG := hid hgrp
    clear x0 x1 f0 f1 hbox b4 bW h1 hcx hgrp
    generalize hgt : topK R T rep n = tk at *
    have HE := hid hgt
    have HN : Hid (nextOk R F T rep n = decide ((0 ≤ rep ∧ rep < 8) ∧ tk + 1 ≤ 1000000000)) := by
      show _ = _
      rw [HNO.out]
      by_cases hc : (0 ≤ rep ∧ rep < 8) ∧ tk + 1 ≤ 1000000000
      · rw [decide_eq_true hc]; exact runOk_true ⟨hc.1.1, hc.1.2, by omega, by omega, hc.2⟩
      · rw [decide_eq_false hc]; exact runOk_false (by omega)
    have HC := hid (runNext HG.out rep tk hrep (by omega) HT.out.symm (by omega) (by omega))
    clear hgt HT HNO HG
    go_wp2_with fail
    refine HC.out.mono ?_
    rintro e w5 ⟨hy, hno, b5⟩
    have z5 := b5.size
    have zz := HB4.out.size
    have q0' := (b5.cell (p := ⟨w.heap.size + 1, 0, none⟩) (show w.heap.size + 1 < w4.heap.size by omega)).trans q0
    have q1' := (b5.cell (p := ⟨w.heap.size + 1, 1, none⟩) (show w.heap.size + 1 < w4.heap.size by omega)).trans q1
    have p0' := (b5.frozen (p := ⟨w.heap.size + 1, 0, none⟩) (show w.heap.size + 1 < w4.heap.size by omega)).trans p0
    have p1' := (b5.frozen (p := ⟨w.heap.size + 1, 1, none⟩) (show w.heap.size + 1 < w4.heap.size by omega)).trans p1
    have HB5 := hid (keepS HB4.out b5)
    clear q0 q1 p0 p1 HB4 b5 HC
    by_cases hc : (0 ≤ rep ∧ rep < 8) ∧ tk + 1 ≤ 1000000000
    · have e1 := hy hc
      rw [decide_eq_true hc] at HN
      clear hy hno
      subst e1
      go_wp2_with fail
      refine bodyPost_ret (v := .tuple #[.agg #[.int .i64 rep, .int .i64 (tk + 1)], .bool true]) (by simp [results, Try.results18, go_sem, q0', q1']) rfl ⟨(fun _ => by first | rfl | rw [HE.out]), (fun h => by have := HN.out.symm.trans h; cases this), ?_⟩
      exact (HB5.out.setCell (by simp) _).setCell (by simp) _
    · have e1 := hno hc
      rw [decide_eq_false hc] at HN
      clear hy hno
      subst e1
      go_wp2_with fail
      refine bodyPost_ret (v := .tuple #[.agg #[.int .i64 0, .int .i64 0], .bool false]) (by simp [results, Try.results18, go_sem, q0', q1']) rfl ⟨(fun h => by have := HN.out.symm.trans h; cases this), (fun _ => rfl), ?_⟩
      exact (HB5.out.setCell (by simp) _).setCell (by simp) _

set_option maxHeartbeats 400000 in
theorem eqDot (r q : Int) (w : World) :
    Calls Try.prog 19 #[.agg #[.int .i64 r, .int .i64 q], .agg #[.int .i64 r, .int .i64 q]] w fun e w' => e = .returned (.bool true) ∧ Below w.heap.size w w' := by
  have HB := hid (fun (o o' : Obj) => below2 w o o')
  go_enter Try.func19, Try.ntmps19
  go_wp2_with fail
  go_ret
  exact ⟨rfl, HB.out _ _⟩
end Go.Proofs.Ytbimcammjohaoab
