import Derived.Test.YtkhicohhahaahaaSte
namespace Go.Proofs.Ytkhicohhahaahaa
open Go.ChangeShapes Go.WideShapes Go.ChangeAt Go.RowKit
set_option linter.unusedVariables false
set_option linter.unusedSimpArgs false

set_option maxRecDepth 100000 in
set_option maxHeartbeats 1000000 in
theorem toStateC (a : Option Addr) (c : Nat) (l : List Lf) (x : Option Addr) (n d : Nat) (R F T : Nat → Int) (w : World) (hn : l.length ≤ 1048576) (hp : LBd l) (hm : n ≤ 1048576) (h : LSeg w a l) (h' : RSeg w x n R F T) :
    Calls Try.prog 7 #[.agg #[.slice a l.length c, .slice x n d]] w fun e w' => ∃ g k, w.heap.size ≤ g ∧ (g < w'.heap.size ∧ LMk w' w.heap.size w'.heap.size g l) ∧ w.heap.size ≤ k ∧ (k < w'.heap.size ∧ ∃ ys, w'.ownsRow w.heap.size 101 3 (.slice (some ⟨k, 0, none⟩) n n) n ys) ∧ e = .returned (.agg #[.slice (some ⟨g, 0, none⟩) l.length l.length, .slice (some ⟨k, 0, none⟩) n n]) ∧ LNew w' w.heap.size (some ⟨g, 0, none⟩) l ∧ RSeg w' (some ⟨k, 0, none⟩) n R F T ∧ Below w.heap.size w w' := by
  have HR' := hid h'
  clear h'
  go_enter Try.func7, Try.ntmps7
  go_wp2_with fail
  refine (toLeaves a c l _ hn hp (h.below ((((Below.refl _ _).alloc (Nat.le_refl _) _).alloc (by simp) _).alloc (by simp; omega) _))).mono ?_
  rintro e w1 ⟨rfl, s1, b1, z1, M1⟩
  obtain ⟨⟨hc0, hc1, hc2⟩, hf1, hf2⟩ := three b1
  have B0 : Below w.heap.size w w1 := ((((Below.refl _ _).alloc (Nat.le_refl _) _).alloc (by simp) _).alloc (by simp; omega) _).trans (b1.mono (by simp; omega))
  have hz : w.heap.size + 1 + 1 + 1 < w1.heap.size := by have := z1; simp at this; omega
  simp only [World.size_alloc] at s1 M1
  have HS := hid s1
  have HM := hid M1
  have HB := hid B0
  have k1 : w1.cell? ⟨w.heap.size, 1, none⟩ = some (.slice x n d) := by rw [hc0]; simp
  have o0 : w1.cell? ⟨w.heap.size + 1, 0, none⟩ = some (.slice none 0 0) := by rw [hc1, World.cell?_alloc_at _ _ _ _ (by simp)]; rfl
  have o1 : w1.cell? ⟨w.heap.size + 1, 1, none⟩ = some (.slice none 0 0) := by rw [hc1, World.cell?_alloc_at _ _ _ _ (by simp)]; rfl
  have fo : ∀ i, w1.frozen? ⟨w.heap.size + 1, i, none⟩ = false := fun i => by rw [hf1, World.frozen?_alloc_at _ _ _ _ (by simp)]
  have x0 : w1.cell? ⟨w.heap.size + 1 + 1, 0, none⟩ = some (.slice none 0 0) := by rw [hc2, World.cell?_alloc_at _ _ _ _ (by simp)]; rfl
  have x1 : w1.cell? ⟨w.heap.size + 1 + 1, 1, none⟩ = some (.slice none 0 0) := by rw [hc2, World.cell?_alloc_at _ _ _ _ (by simp)]; rfl
  have fx : ∀ i, w1.frozen? ⟨w.heap.size + 1 + 1, i, none⟩ = false := fun i => by rw [hf2, World.frozen?_alloc_at _ _ _ _ (by simp)]
  clear s1 M1 B0 b1 z1 hc0 hc1 hc2 hf1 hf2 h
  go_wp2_with fail
  obtain ⟨W, hW⟩ : ∃ W, w1.setCell ⟨w.heap.size + 1 + 1, 0, none⟩ (.slice (some ⟨w.heap.size + 1 + 1 + 1, 0, none⟩) l.length l.length) = W := ⟨_, rfl⟩
  have X0 : W.cell? ⟨w.heap.size + 1 + 1, 0, none⟩ = some (.slice (some ⟨w.heap.size + 1 + 1 + 1, 0, none⟩) l.length l.length) := by rw [← hW]; exact World.cell?_setCell_same _ _ _ x0
  have X1 : W.cell? ⟨w.heap.size + 1 + 1, 1, none⟩ = some (.slice none 0 0) := by rw [← hW]; simp [World.cell?_setCell_other, x1]
  have FX : ∀ i, W.frozen? ⟨w.heap.size + 1 + 1, i, none⟩ = false := fun i => by rw [← hW, World.frozen?_setCell]; exact fx i
  have FO : ∀ i, W.frozen? ⟨w.heap.size + 1, i, none⟩ = false := fun i => by rw [← hW, World.frozen?_setCell]; exact fo i
  have O0 : W.cell? ⟨w.heap.size + 1, 0, none⟩ = some (.slice none 0 0) := by rw [← hW, World.cell?_setCell_far _ _ _ _ (by simp)]; exact o0
  have O1 : W.cell? ⟨w.heap.size + 1, 1, none⟩ = some (.slice none 0 0) := by rw [← hW, World.cell?_setCell_far _ _ _ _ (by simp)]; exact o1
  have hS : LNew W (w.heap.size + 1 + 1 + 1) (some ⟨w.heap.size + 1 + 1 + 1, 0, none⟩) l := by rw [← hW]; exact HS.out.set _ _ (by simp)
  have hM : LMk W (w.heap.size + 1 + 1 + 1) W.heap.size (w.heap.size + 1 + 1 + 1) l := by rw [← hW]; exact (HM.out.set _ _ (by simp)).wide (Nat.le_refl _) (by simp [World.setCell])
  have hB : Below w.heap.size w W := by rw [← hW]; exact HB.out.setCell (by simp; omega) _
  have zW : w.heap.size + 1 + 1 + 1 < W.heap.size := by rw [← hW]; simp [World.setCell]; exact hz
  rw [hW]
  clear hW HS HM HB k1 o0 o1 x0 x1 fx fo hz
  refine (toContextO x n d R F T W hm (HR'.out.below hB)).mono ?_
  rintro e w2 ⟨k, hk1, hk2, rfl, s2, b2, ys, o2⟩
  have HOW : Hid (w2.ownsRow w.heap.size 101 3 (.slice (some ⟨k, 0, none⟩) n n) n ys) := hid (by
    obtain ⟨q1, q2⟩ := o2
    refine ⟨q1, ?_⟩
    rcases q2 with q2 | ⟨g, cap, cur, e, hbg, r⟩
    · exact .inl q2
    · exact .inr ⟨g, cap, cur, e, Nat.le_trans hB.size hbg, r⟩)
  have HM2 := hid ((hM.same (fun g _ h2 => b2.block g h2)).wide (show w.heap.size ≤ w.heap.size + 1 + 1 + 1 by omega) (Nat.le_refl W.heap.size))
  have HM := hid (hM.same (fun g _ h2 => b2.block g h2))
  have HWs := hid b2.size
  have HS := hid (hS.below b2)
  have HB := hid (hB.trans (b2.mono hB.size))
  have HK := hid s2
  have hz : w.heap.size + 1 + 1 + 1 < w2.heap.size := Nat.lt_of_lt_of_le zW b2.size
  have x0 := (b2.cell (p := ⟨w.heap.size + 1 + 1, 0, none⟩) (show w.heap.size + 1 + 1 < W.heap.size by omega)).trans X0
  have x1 := (b2.cell (p := ⟨w.heap.size + 1 + 1, 1, none⟩) (show w.heap.size + 1 + 1 < W.heap.size by omega)).trans X1
  have o0 := (b2.cell (p := ⟨w.heap.size + 1, 0, none⟩) (show w.heap.size + 1 < W.heap.size by omega)).trans O0
  have o1 := (b2.cell (p := ⟨w.heap.size + 1, 1, none⟩) (show w.heap.size + 1 < W.heap.size by omega)).trans O1
  have fx : ∀ i, w2.frozen? ⟨w.heap.size + 1 + 1, i, none⟩ = false := fun i => (b2.frozen (p := ⟨w.heap.size + 1 + 1, i, none⟩) (show w.heap.size + 1 + 1 < W.heap.size by omega)).trans (FX i)
  have fo : ∀ i, w2.frozen? ⟨w.heap.size + 1, i, none⟩ = false := fun i => (b2.frozen (p := ⟨w.heap.size + 1, i, none⟩) (show w.heap.size + 1 < W.heap.size by omega)).trans (FO i)
  have hk3 : w.heap.size + 1 + 1 < k := by omega
  clear hS hB hM b2 X0 X1 O0 O1 FX FO s2 o2 zW hk1 HM2
  go_wp2_with fail
  refine bodyPost_ret (v := .agg #[.slice (some ⟨w.heap.size + 1 + 1 + 1, 0, none⟩) l.length l.length, .slice (some ⟨k, 0, none⟩) n n]) (by simp [results, Try.results7, go_sem, o0, o1]) rfl ⟨w.heap.size + 1 + 1 + 1, k, by omega, ⟨by simp [World.setCell]; omega, ?_⟩, by omega, ⟨by simp [World.setCell]; omega, ys, ?_⟩, rfl, ?_, ?_, ?_⟩
  · refine LMk.wide (lo := w.heap.size + 1 + 1 + 1) (hi := W.heap.size) ?_ (by omega) (by simp [World.setCell]; exact HWs.out)
    repeat (refine LMk.set ?_ _ _ (by simp; try omega))
    exact HM.out
  · repeat (refine owns_set ?_ _ _ (by simp; try omega))
    exact HOW.out
  · refine LNew.move (B := w.heap.size + 1 + 1 + 1) ?_ (by omega) (Nat.le_refl _) (fun _ _ _ => rfl)
    repeat (refine LNew.set ?_ _ _ (by simp; try omega))
    exact HS.out
  · repeat (refine RSeg.set ?_ _ _ (fun x hx => by simp at hx; subst hx; simp; try omega))
    exact HK.out
  · repeat (refine Below.setCell ?_ (by simp; try omega) _)
    exact HB.out

set_option maxRecDepth 100000 in
set_option maxHeartbeats 1000000 in
theorem szStateC (a : Option Addr) (c : Nat) (l : List Lf) (x : Option Addr) (n d : Nat) (k : Int) (w : World) (hk0 : 0 ≤ k) (hk1 : k ≤ 1048576) (hn : l.length ≤ 9223372036854775807) (hm : n ≤ 9223372036854775807) (hb : ∀ i, LfBig (gL l i)) (h : LSeg w a l) :
    Calls Try.prog 4 #[.agg #[.slice a l.length c, .slice x n d], .int .i64 k] w fun e w' => (∃ k', e = .returned (.int .i64 k') ∧ -1 ≤ k' ∧ k' ≤ k ∧ (0 ≤ k' → (l.length ≤ 1048576 ∧ ∀ i, LfSm (gL l i)) ∧ n ≤ 1048576)) ∧ Below w.heap.size w w' := by
  obtain ⟨W, hW⟩ : ∃ W, w.alloc (.cells #[.slice a l.length c, .slice x n d] 27) = W := ⟨_, rfl⟩
  have b0 : Below w.heap.size w W := by rw [← hW]; exact (Below.refl _ _).alloc (Nat.le_refl _) _
  have zW : w.heap.size < W.heap.size := by rw [← hW]; simp
  have k0 : W.cell? ⟨w.heap.size, 0, none⟩ = some (.slice a l.length c) := by rw [← hW]; simp
  have k1 : W.cell? ⟨w.heap.size, 1, none⟩ = some (.slice x n d) := by rw [← hW]; simp
  have HS := hid (szLeaves a c l k W hk0 hk1 hn hb (h.below b0))
  have HB0 := hid b0
  clear h b0 hb
  go_enter Try.func4, Try.ntmps4
  go_wp2_with fail
  try rw [hW]
  clear hW
  refine HS.out.mono ?_
  rintro e w1 ⟨⟨k', rfl, hk'0, hk'1, hps⟩, b1⟩
  have m1 := (b1.cell (p := ⟨w.heap.size, 1, none⟩) zW).trans k1
  have HPS := hid hps
  have HB1 := hid (HB0.out.trans (b1.mono HB0.out.size))
  clear hps HS HB0 k0 k1 b1 zW
  by_cases hneg : k' < 0
  · have d0 : decide (k' < 0) = true := by simpa using hneg
    go_wp2_with fail
    go_ret
    exact ⟨⟨-1, rfl, by omega, by omega, fun h => by omega⟩, HB1.out⟩
  · have d0 : decide (k' < 0) = false := by simpa using hneg
    go_wp2_with fail
    refine (szContext x n d k' w1 hm (by omega) (by omega)).mono ?_
    rintro e w2 ⟨rfl, b2⟩
    have HB2 := hid (HB1.out.trans (b2.mono HB1.out.size))
    clear b2 m1
    by_cases hlt : k' < (n : Int)
    · rw [show szLeft k' n = -1 from if_pos (by omega)]
      go_wp2_with fail
      go_ret
      exact ⟨⟨-1, rfl, by omega, by omega, fun h => by omega⟩, HB2.out⟩
    · obtain ⟨k2, hk2⟩ : ∃ k2, k' - (n : Int) = k2 := ⟨_, rfl⟩
      have e2 : szLeft k' n = k2 := by rw [show szLeft k' n = k' - n from if_neg (by omega)]; exact hk2
      rw [e2]
      have d1 : decide (k2 < 0) = false := by simp; omega
      have HN : Hid (n ≤ 1048576) := hid (by omega)
      have c1 : -1 ≤ k2 ∧ k2 ≤ k := by omega
      clear e2 hk2 hlt
      go_wp2_with fail
      go_ret
      exact ⟨⟨k2, rfl, c1.1, c1.2, fun _ => ⟨HPS.out (by omega), HN.out⟩⟩, HB2.out⟩
end Go.Proofs.Ytkhicohhahaahaa
