import Derived.Test.YthkppnmnjboiaaaDoorFd
import Derived.Deep.QuietTactic
import Derived.BigQuiet
namespace Go.Proofs.YthkppnmnjboiaaaDoor
open Go.ChangeShapes Go.WideShapes Go.ChangeAt Go.RowKit
set_option linter.unusedVariables false
set_option linter.unusedSimpArgs false

theorem below_drewX {B : Nat} {a w : World} (h : Below B a w) (n : Nat) : Below B a (w.drewN n) := ⟨h.os, h.tape, h.output, h.size, h.block⟩
set_option maxRecDepth 100000 in
set_option maxHeartbeats 1000000 in
theorem l5HeadC (a : Option Addr) (n c : Nat) (f : Nat → Int) (w : World) (hn : n ≤ 4194304) (hf : Byt f) (h : Seg w a n f) :
    Calls Tryd.prog 24 #[.slice a n c] w fun e w' => e = .returned (.tuple #[.int .i64 ((headF f n).1 : Int), .int .i64 ((headF f n).2.1 : Int), .int .i64 ((headF f n).2.2 : Int)]) ∧ Below w.heap.size w w' := by
  obtain ⟨W, hW⟩ : ∃ W, w.alloc (.cells #[.int .u8 199, .int .u8 1] 5) = W := ⟨_, rfl⟩
  have bW : Below w.heap.size w W := by rw [← hW]; exact (Below.refl _ _).alloc (Nat.le_refl _) _
  have t0 : W.cell? ⟨w.heap.size, 0, none⟩ = some (.int .u8 199) := by rw [← hW]; simp
  have t1 : W.cell? ⟨w.heap.size, 1, none⟩ = some (.int .u8 1) := by rw [← hW]; simp
  have HS := hid (h.below bW)
  have HBW := hid bW
  by_cases h0 : n = 0
  · subst h0
    have HR : Hid (headF f 0 = (0, 0, 0)) := hid (by unfold headF; simp)
    rw [HR.out]
    clear h bW
    go_enter Tryd.func24, Tryd.ntmps24
    go_wp2_with fail
    try rw [hW]
    clear hW
    refine wp_loop_rounds 1 ?_
    rw [rounds_succ]
    go_wp2_with fail
    go_ret3
    exact ⟨rfl, HBW.out⟩
  · rcases h with h | ⟨b, off, rfl, hb, hc⟩
    · omega
    have c0 : W.cell? ⟨b, off, none⟩ = some (.int .u8 (f 0)) := by simpa using (bW.cell (p := ⟨b, off + 0, none⟩) hb).trans (hc 0 (by omega))
    have f0 := hf 0
    have f1 := hf 1
    have f2 := hf 2
    by_cases hf0 : f 0 = 199
    · rw [hf0] at c0
      by_cases h1 : n = 1
      · subst h1
        have HR : Hid (headF f 1 = (0, 0, 0)) := hid (by unfold headF; simp [hf0])
        rw [HR.out]
        clear hc bW
        go_enter Tryd.func24, Tryd.ntmps24
        go_wp2_with fail
        try rw [hW]
        clear hW
        refine wp_loop_rounds 2 ?_
        rw [rounds_succ]
        go_wp2_with fail
        go_quiet (fail)
        go_wp2_with fail
        rw [rounds_succ]
        go_wp2_with fail
        go_ret3
        exact ⟨rfl, by first | exact below_drewX HBW.out _ | exact HBW.out⟩
      · have c1 : W.cell? ⟨b, off + 1, none⟩ = some (.int .u8 (f 1)) := (bW.cell (p := ⟨b, off + 1, none⟩) hb).trans (hc 1 (by omega))
        have n1 : (1 : Int) < (n : Int) := by omega
        by_cases hf1 : f 1 = 1
        · rw [hf1] at c1
          by_cases h2 : n = 2
          · subst h2
            have HR : Hid (headF f 2 = (0, 0, 0)) := hid (by unfold headF; simp [hf0, hf1])
            rw [HR.out]
            clear hc bW
            go_enter Tryd.func24, Tryd.ntmps24
            go_wp2_with fail
            try rw [hW]
            clear hW
            refine wp_loop_rounds 3 ?_
            rw [rounds_succ]
            go_wp2_with fail
            go_quiet (fail)
            go_wp2_with fail
            rw [rounds_succ]
            go_wp2_with fail
            go_quiet (fail)
            go_wp2_with fail
            rw [rounds_succ]
            go_wp2_with fail
            go_ret3
            exact ⟨rfl, by first | exact below_drewX (below_drewX HBW.out _) _ | exact below_drewX HBW.out _⟩
          · have c2 : W.cell? ⟨b, off + 2, none⟩ = some (.int .u8 (f 2)) := (bW.cell (p := ⟨b, off + 2, none⟩) hb).trans (hc 2 (by omega))
            have n2 : (2 : Int) < (n : Int) := by omega
            have n3 : decide ((n : Int) < 3) = false := by simp; omega
            clear hc bW
            by_cases h21 : f 2 < 1
            · have HR : Hid (headF f n = (3, 0, 0)) := hid (by unfold headF; rw [if_neg (fun h => h.2 hf0), if_neg (fun h => h.2 hf1), if_neg (by omega), if_pos (.inl h21)])
              have d1 : decide (f 2 < 1) = true := by simpa using h21
              rw [HR.out]
              go_enter Tryd.func24, Tryd.ntmps24
              go_wp2_with fail
              try rw [hW]
              clear hW
              refine wp_loop_rounds 3 ?_
              rw [rounds_succ]
              go_wp2_with fail
              go_quiet (fail)
              go_wp2_with fail
              rw [rounds_succ]
              go_wp2_with fail
              go_quiet (fail)
              go_wp2_with fail
              rw [rounds_succ]
              go_wp2_with fail
              go_ret3
              exact ⟨rfl, by first | exact below_drewX HBW.out _ | exact below_drewX (below_drewX HBW.out _) _⟩
            · have d1 : decide (f 2 < 1) = false := by simpa using h21
              by_cases h23 : 3 < f 2
              · have HR : Hid (headF f n = (3, 0, 0)) := hid (by unfold headF; rw [if_neg (fun h => h.2 hf0), if_neg (fun h => h.2 hf1), if_neg (by omega), if_pos (.inr h23)])
                have d2 : decide (3 < f 2) = true := by simpa using h23
                rw [HR.out]
                go_enter Tryd.func24, Tryd.ntmps24
                go_wp2_with fail
                try rw [hW]
                clear hW
                refine wp_loop_rounds 3 ?_
                rw [rounds_succ]
                go_wp2_with fail
                go_quiet (fail)
                go_wp2_with fail
                rw [rounds_succ]
                go_wp2_with fail
                go_quiet (fail)
                go_wp2_with fail
                rw [rounds_succ]
                go_wp2_with fail
                go_ret3
                exact ⟨rfl, by first | exact below_drewX HBW.out _ | exact below_drewX (below_drewX HBW.out _) _⟩
              · have d2 : decide (3 < f 2) = false := by simpa using h23
                have hcn := cM_spec f n 3
                have HH : Hid (headF f n = if (lenX f n).2.2 = 1 then (0, 0, 0) else if (lenX f n).2.2 ≠ 0 ∨ 4000 < (lenX f n).1 then (4, 0, 0) else (0, (lenX f n).2.1.toNat, (lenX f n).1)) := hid (by unfold headF; rw [if_neg (fun h => h.2 hf0), if_neg (fun h => h.2 hf1), if_neg (by omega), if_neg (by omega)])
                have HX : Hid (∀ k, Calls Tryd.prog 31 #[.slice (some ⟨b, off, none⟩) n c, .int .i64 3] (W.drewN k) fun e w' => e = .returned (.tuple #[.int .u64 ((lenX f n).1 : Int), .int .i64 (lenX f n).2.1, .int .i64 ((lenX f n).2.2 : Int)]) ∧ Below (W.drewN k).heap.size (W.drewN k) w') := hid fun k => specX (some ⟨b, off, none⟩) n c (cM f n 3) 3 f (W.drewN k) hn hf (HS.out.below (below_drewX (Below.refl _ _) k)) (by simpa using hcn)
                have hb3 := gX_bounds (f := f) (n := n) (m := cM f n 3) (x := 3) (by simpa using hcn) hf hn (by omega) (by omega)
                have hb4 : (lenX f n).1 < 18446744073709551616 ∧ (lenX f n).2.2 ≤ 3 ∧ ((lenX f n).2.2 = 0 → 0 ≤ (lenX f n).2.1 ∧ (lenX f n).2.1 ≤ n) ∧ ((lenX f n).2.2 ≠ 0 → (lenX f n).2.1 = 3) := hb3
                obtain ⟨G, hG⟩ : ∃ G, lenX f n = G := ⟨_, rfl⟩
                rw [hG] at HH HX hb4
                obtain ⟨V, A, C⟩ := G
                dsimp only at HH HX hb4
                obtain ⟨hV, hC, hA0, _⟩ := hb4
                clear hb3 hG hcn HS
                by_cases hC1 : C = 1
                · subst hC1
                  have HR : Hid (headF f n = (0, 0, 0)) := hid (by rw [HH.out]; rfl)
                  rw [HR.out]
                  clear hA0
                  go_enter Tryd.func24, Tryd.ntmps24
                  go_wp2_with fail
                  try rw [hW]
                  clear hW
                  refine wp_loop_rounds 3 ?_
                  rw [rounds_succ]
                  go_wp2_with fail
                  go_quiet (fail)
                  go_wp2_with fail
                  rw [rounds_succ]
                  go_wp2_with fail
                  go_quiet (fail)
                  go_wp2_with fail
                  rw [rounds_succ]
                  go_wp2_with fail
                  refine (HX.out _).mono ?_
                  rintro e w2 ⟨rfl, b2⟩
                  have HB2 := hid (keepS (below_drewX HBW.out _) b2)
                  clear b2 HX
                  go_wp2_with fail
                  go_ret3
                  exact ⟨rfl, HB2.out⟩
                · have k1 : ((C : Int) == 1) = false := by simp; omega
                  by_cases hC0 : C = 0
                  · subst hC0
                    by_cases hV4 : 4000 < V
                    · have HR : Hid (headF f n = (4, 0, 0)) := hid (by rw [HH.out, if_neg (by omega), if_pos (.inr hV4)])
                      have k4 : decide ((4000 : Int) < (V : Int)) = true := by simp; omega
                      rw [HR.out]
                      clear hA0
                      go_enter Tryd.func24, Tryd.ntmps24
                      go_wp2_with fail
                      try rw [hW]
                      clear hW
                      refine wp_loop_rounds 3 ?_
                      rw [rounds_succ]
                      go_wp2_with fail
                      go_quiet (fail)
                      go_wp2_with fail
                      rw [rounds_succ]
                      go_wp2_with fail
                      go_quiet (fail)
                      go_wp2_with fail
                      rw [rounds_succ]
                      go_wp2_with fail
                      refine (HX.out _).mono ?_
                      rintro e w2 ⟨rfl, b2⟩
                      have HB2 := hid (keepS (below_drewX HBW.out _) b2)
                      clear b2 HX
                      go_wp2_with fail
                      go_ret3
                      exact ⟨rfl, HB2.out⟩
                    · obtain ⟨hA1, hA2⟩ := hA0 rfl
                      obtain ⟨x', rfl⟩ : ∃ x' : Nat, A = (x' : Int) := ⟨A.toNat, by omega⟩
                      have HR : Hid (headF f n = (0, x', V)) := hid (by rw [HH.out, if_neg (by omega), if_neg (by omega)]; simp)
                      have k4 : decide ((4000 : Int) < (V : Int)) = false := by simp; omega
                      have e5 : IntKind.i64.wrap (V : Int) = (V : Int) := by rw [IntKind.wrap_i64]; omega
                      rw [HR.out]
                      clear hA0
                      go_enter Tryd.func24, Tryd.ntmps24
                      go_wp2_with fail
                      try rw [hW]
                      clear hW
                      refine wp_loop_rounds 3 ?_
                      rw [rounds_succ]
                      go_wp2_with fail
                      go_quiet (fail)
                      go_wp2_with fail
                      rw [rounds_succ]
                      go_wp2_with fail
                      go_quiet (fail)
                      go_wp2_with fail
                      rw [rounds_succ]
                      go_wp2_with fail
                      refine (HX.out _).mono ?_
                      rintro e w2 ⟨rfl, b2⟩
                      have HB2 := hid (keepS (below_drewX HBW.out _) b2)
                      clear b2 HX
                      go_wp2_with fail
                      go_ret3
                      exact ⟨by first | rfl | rw [e5], HB2.out⟩
                  · have HR : Hid (headF f n = (4, 0, 0)) := hid (by rw [HH.out, if_neg hC1, if_pos (.inl hC0)])
                    have k0 : ((C : Int) == 0) = false := by simp; omega
                    rw [HR.out]
                    clear hA0
                    go_enter Tryd.func24, Tryd.ntmps24
                    go_wp2_with fail
                    try rw [hW]
                    clear hW
                    refine wp_loop_rounds 3 ?_
                    rw [rounds_succ]
                    go_wp2_with fail
                    go_quiet (fail)
                    go_wp2_with fail
                    rw [rounds_succ]
                    go_wp2_with fail
                    go_quiet (fail)
                    go_wp2_with fail
                    rw [rounds_succ]
                    go_wp2_with fail
                    refine (HX.out _).mono ?_
                    rintro e w2 ⟨rfl, b2⟩
                    have HB2 := hid (keepS (below_drewX HBW.out _) b2)
                    clear b2 HX
                    go_wp2_with fail
                    go_ret3
                    exact ⟨rfl, HB2.out⟩
        · have HR : Hid (headF f n = (2, 0, 0)) := hid (by unfold headF; rw [if_neg (fun h => h.2 hf0), if_pos ⟨by omega, hf1⟩])
          have e1 : (f 1 == 1) = false := by simpa using hf1
          rw [HR.out]
          clear hc bW
          go_enter Tryd.func24, Tryd.ntmps24
          go_wp2_with fail
          try rw [hW]
          clear hW
          refine wp_loop_rounds 2 ?_
          rw [rounds_succ]
          go_wp2_with fail
          go_quiet (fail)
          go_wp2_with fail
          rw [rounds_succ]
          go_wp2_with fail
          go_quiet (fail)
          go_wp2_with fail
          go_ret3
          exact ⟨rfl, by first | exact below_drewX (below_drewX HBW.out _) _ | exact below_drewX HBW.out _⟩
    · have HR : Hid (headF f n = (1, 0, 0)) := hid (by unfold headF; rw [if_pos ⟨by omega, hf0⟩])
      have e0 : (f 0 == 199) = false := by simpa using hf0
      have n0 : (0 : Int) < (n : Int) := by omega
      rw [HR.out]
      clear hc bW
      go_enter Tryd.func24, Tryd.ntmps24
      go_wp2_with fail
      try rw [hW]
      clear hW
      refine wp_loop_rounds 1 ?_
      rw [rounds_succ]
      go_wp2_with fail
      go_quiet (fail)
      go_wp2_with fail
      go_ret3
      exact ⟨rfl, below_drewX HBW.out _⟩
end Go.Proofs.YthkppnmnjboiaaaDoor
