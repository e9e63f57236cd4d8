import Derived.Test.YtbimcammjohaoadDoorGk
namespace Go.Proofs.YtbimcammjohaoadDoor
open Go.ChangeShapes Go.WideShapes Go.ChangeAt Go.RowKit
set_option linter.unusedVariables false
set_option linter.unusedSimpArgs false

set_option maxRecDepth 100000 in
set_option maxHeartbeats 1000000 in
theorem placeOf (pb B : Nat) (x : Int) (u : Value) (aT aS aL aE : Addr) (w : World) (hP : Plc w pb x u) (hE : Errs w B aT aS aL aE) (hB : B ≤ w.heap.size) :
    Calls Tryd.prog 26 #[.iface 84 (.pointer (some ⟨pb, 0, none⟩))] w fun e w' => e = .returned (.int .i64 x) ∧ Below w.heap.size w w' := by
  obtain ⟨W, hW⟩ : ∃ W, w.alloc (.cells #[.pointer none] 84) = W := ⟨_, rfl⟩
  have bW : Below w.heap.size w W := by rw [← hW]; exact (Below.refl _ _).alloc (Nat.le_refl _) _
  have zW : W.heap.size = w.heap.size + 1 := by rw [← hW]; simp
  have hE1 := hE.below (bW.mono hB)
  have hT : W.cell? ⟨w.heap.size, 0, none⟩ = some (.pointer none) := by rw [← hW]; simp
  have hF : W.frozen? ⟨w.heap.size, 0, none⟩ = false := by rw [← hW]; simp
  have hP1 := hP.below bW hP.2.2
  have HA := hid (as_hit ⟨pb, 0, none⟩ ⟨w.heap.size, 0, none⟩ _ W hE1.gY hT hF)
  have hplt := hP.2.2
  clear hE hE1
  go_enter Tryd.func26, Tryd.ntmps26
  go_wp2_with fail
  try rw [hW]
  clear hW
  refine HA.out.mono ?_
  obtain ⟨W2, hW2⟩ : ∃ W2, ((((W.alloc (.cells #[.pointer (some ⟨w.heap.size, 0, none⟩)] 88)).alloc (.cells #[.pointer (some ⟨7, 88, none⟩), .pointer (some ⟨W.heap.size, 0, none⟩), .int .u64 150] 116)).alloc (.cells #[.pointer (some ⟨7, 88, none⟩), .pointer (some ⟨W.heap.size, 0, none⟩), .int .u64 150] 116)).alloc (.cells #[.pointer (some ⟨pb, 0, none⟩)] 84)) = W2 := ⟨_, rfl⟩
  rw [hW2]
  have bW2 : Below W.heap.size W W2 := by
    rw [← hW2]
    exact ((((Below.refl _ _).alloc (Nat.le_refl _) _).alloc (by simp) _).alloc (by simp; omega) _).alloc (by simp; omega) _
  clear hW2 HA
  have hT2 := (bW2.cell (p := ⟨w.heap.size, 0, none⟩) (by show w.heap.size < _; omega)).trans hT
  have c0 : (W2.setCell ⟨w.heap.size, 0, none⟩ (.pointer (some ⟨pb, 0, none⟩))).cell? ⟨w.heap.size, 0, none⟩ = some (.pointer (some ⟨pb, 0, none⟩)) := World.cell?_setCell_same _ _ _ hT2
  have c1 : (W2.setCell ⟨w.heap.size, 0, none⟩ (.pointer (some ⟨pb, 0, none⟩))).cell? ⟨pb, 1, none⟩ = some (.int .i64 x) := by
    rw [World.cell?_setCell_far _ _ _ _ (by simp; omega)]
    exact (bW2.cell (p := ⟨pb, 1, none⟩) (by show pb < _; omega)).trans hP1.1
  have bB : Below w.heap.size w (W2.setCell ⟨w.heap.size, 0, none⟩ (.pointer (some ⟨pb, 0, none⟩))) := (bW.trans (bW2.mono (by omega))).setCell (Nat.le_refl _) _
  obtain ⟨W3, hW3⟩ : ∃ W3, W2.setCell ⟨w.heap.size, 0, none⟩ (.pointer (some ⟨pb, 0, none⟩)) = W3 := ⟨_, rfl⟩
  rw [hW3] at c0 c1 bB ⊢
  have HB := hid bB
  clear hW3 hT2 bW2 bB bW hT hF hP1 hP
  rintro e w1 ⟨rfl, rfl⟩
  go_wp2_with fail
  go_ret
  exact ⟨rfl, HB.out⟩

theorem guC_or (f : Nat → Int) (n p m : Nat) : guC f n p m = 0 ∨ (guC f n p m = 1 ∨ guC f n p m = 2 ∨ guC f n p m = 3) := by
  unfold guC
  repeat' split
  all_goals simp

def gX (f : Nat → Int) (n m : Nat) (x : Int) : Nat × Int × Nat := if 0 ≤ x ∧ x < n then (guV f n x.toNat m, (guA f n x.toNat m : Int), guC f n x.toNat m) else (0, x, 1)

end Go.Proofs.YtbimcammjohaoadDoor
