import Derived.Test.YtbimcammjohaoadGreatDoorMg26
namespace Go.Proofs.YtbimcammjohaoadGreatDoor
open Go.ChangeShapes Go.WideShapes Go.ChangeAt Go.RowKit
set_option linter.unusedVariables false
set_option linter.unusedSimpArgs false

set_option maxRecDepth 100000 in
set_option maxHeartbeats 1000000 in
theorem placeOf (pb B : Nat) (x : Int) (u : Value) (aT aS aL aE : Addr) (w : World) (hP : Plc w pb x u) (hE : Errs w B aT aS aL aE) (hB : B ≤ w.heap.size) :
    Calls Tryz.prog 27 #[.iface 87 (.pointer (some ⟨pb, 0, none⟩))] w fun e w' => e = .returned (.int .i64 x) ∧ Below w.heap.size w w' := by
  obtain ⟨W, hW⟩ : ∃ W, w.alloc (.cells #[.pointer none] 87) = W := ⟨_, rfl⟩
  have bW : Below w.heap.size w W := by rw [← hW]; exact (Below.refl _ _).alloc (Nat.le_refl _) _
  have zW : W.heap.size = w.heap.size + 1 := by rw [← hW]; simp
  have hE1 := hE.below (bW.mono hB)
  have hT : W.cell? ⟨w.heap.size, 0, none⟩ = some (.pointer none) := by rw [← hW]; simp
  have hF : W.frozen? ⟨w.heap.size, 0, none⟩ = false := by rw [← hW]; simp
  have hP1 := hP.below bW hP.2.2
  have HA := hid (as_hit ⟨pb, 0, none⟩ ⟨w.heap.size, 0, none⟩ _ W hE1.gY hT hF)
  have hplt := hP.2.2
  clear hE hE1
  go_enter Tryz.func27, Tryz.ntmps27
  go_wp2_with fail
  try rw [hW]
  clear hW
  refine HA.out.mono ?_
  obtain ⟨W2, hW2⟩ : ∃ W2, ((((W.alloc (.cells #[.pointer (some ⟨w.heap.size, 0, none⟩)] 91)).alloc (.cells #[.pointer (some ⟨7, 91, none⟩), .pointer (some ⟨W.heap.size, 0, none⟩), .int .u64 150] 108)).alloc (.cells #[.pointer (some ⟨7, 91, none⟩), .pointer (some ⟨W.heap.size, 0, none⟩), .int .u64 150] 108)).alloc (.cells #[.pointer (some ⟨pb, 0, none⟩)] 87)) = W2 := ⟨_, rfl⟩
  rw [hW2]
  have bW2 : Below W.heap.size W W2 := by
    rw [← hW2]
    exact ((((Below.refl _ _).alloc (Nat.le_refl _) _).alloc (by simp) _).alloc (by simp; omega) _).alloc (by simp; omega) _
  clear hW2 HA
  have hT2 := (bW2.cell (p := ⟨w.heap.size, 0, none⟩) (by show w.heap.size < _; omega)).trans hT
  have c0 : (W2.setCell ⟨w.heap.size, 0, none⟩ (.pointer (some ⟨pb, 0, none⟩))).cell? ⟨w.heap.size, 0, none⟩ = some (.pointer (some ⟨pb, 0, none⟩)) := World.cell?_setCell_same _ _ _ hT2
  have c1 : (W2.setCell ⟨w.heap.size, 0, none⟩ (.pointer (some ⟨pb, 0, none⟩))).cell? ⟨pb, 1, none⟩ = some (.int .i64 x) := by
    rw [World.cell?_setCell_far _ _ _ _ (by simp; omega)]
    exact (bW2.cell (p := ⟨pb, 1, none⟩) (by show pb < _; omega)).trans hP1.1
  have bB : Below w.heap.size w (W2.setCell ⟨w.heap.size, 0, none⟩ (.pointer (some ⟨pb, 0, none⟩))) := (bW.trans (bW2.mono (by omega))).setCell (Nat.le_refl _) _
  obtain ⟨W3, hW3⟩ : ∃ W3, W2.setCell ⟨w.heap.size, 0, none⟩ (.pointer (some ⟨pb, 0, none⟩)) = W3 := ⟨_, rfl⟩
  rw [hW3] at c0 c1 bB ⊢
  have HB := hid bB
  clear hW3 hT2 bW2 bB bW hT hF hP1 hP
  rintro e w1 ⟨rfl, rfl⟩
  go_wp2_with fail
  go_ret
  exact ⟨rfl, HB.out⟩

theorem guC_or (f : Nat → Int) (n p m : Nat) : guC f n p m = 0 ∨ (guC f n p m = 1 ∨ guC f n p m = 2 ∨ guC f n p m = 3) := by
  unfold guC
  repeat' split
  all_goals simp

def gX (f : Nat → Int) (n m : Nat) (x : Int) : Nat × Int × Nat := if 0 ≤ x ∧ x < n then (guV f n x.toNat m, (guA f n x.toNat m : Int), guC f n x.toNat m) else (0, x, 1)

end Go.Proofs.YtbimcammjohaoadGreatDoor

namespace Go.Proofs.YtbimcammjohaoadGreatDoor
open Go.ChangeShapes Go.WideShapes Go.ChangeAt Go.RowKit
set_option linter.unusedVariables false
set_option linter.unusedSimpArgs false

theorem gX_in {f : Nat → Int} {n m p : Nat} (hp : p < n) : gX f n m (p : Int) = (guV f n p m, (guA f n p m : Int), guC f n p m) := by
  unfold gX; rw [if_pos ⟨by omega, by omega⟩]; simp
theorem gX_out {f : Nat → Int} {n m : Nat} {x : Int} (hx : x < 0 ∨ (n : Int) ≤ x) : gX f n m x = (0, x, 1) := by
  unfold gX; rw [if_neg (by omega)]
theorem gX_bounds {f : Nat → Int} {n m : Nat} {x : Int} (hm : Cnt f n x.toNat m) (hf : Byt f) (hn : n ≤ 1048576) (hx0 : -9223372036854775808 ≤ x) (hx1 : x ≤ 9223372036854775807) :
    (gX f n m x).1 < 18446744073709551616 ∧ (gX f n m x).2.2 ≤ 3 ∧ ((gX f n m x).2.2 = 0 → 0 ≤ (gX f n m x).2.1 ∧ (gX f n m x).2.1 ≤ n) ∧ ((gX f n m x).2.2 ≠ 0 → (gX f n m x).2.1 = x) := by
  by_cases hx : 0 ≤ x ∧ x < n
  · obtain ⟨p, rfl⟩ : ∃ p : Nat, x = (p : Int) := ⟨x.toNat, by omega⟩
    rw [gX_in (by omega)]
    have hm' : Cnt f n p m := by simpa using hm
    refine ⟨?_, ?_, ?_, ?_⟩
    · show guV f n p m < _
      unfold guV
      split
      · rename_i h0
        refine sumF_64 hf p m hm'.1 (fun h9 => ?_) (m + 1) (Nat.le_refl _)
        unfold guC at h0
        by_cases h1 : n ≤ p + m
        · rw [if_pos h1] at h0; omega
        · rw [if_neg h1] at h0
          by_cases h2 : m = 9 ∧ 1 < f (p + m)
          · rw [if_pos h2] at h0; omega
          · omega
      · omega
    · show guC f n p m ≤ 3
      rcases guC_or f n p m with h | h | h | h <;> omega
    · intro h0
      have h0' : guC f n p m = 0 := h0
      have h1 : ¬ n ≤ p + m := fun h1 => by unfold guC at h0'; rw [if_pos h1] at h0'; omega
      show 0 ≤ (guA f n p m : Int) ∧ (guA f n p m : Int) ≤ n
      unfold guA; rw [if_pos h0']; omega
    · intro h0
      show (guA f n p m : Int) = p
      unfold guA; rw [if_neg h0]
  · rw [gX_out (by omega)]
    exact ⟨by simp, by simp, fun h => by simp at h, fun _ => rfl⟩

end Go.Proofs.YtbimcammjohaoadGreatDoor
