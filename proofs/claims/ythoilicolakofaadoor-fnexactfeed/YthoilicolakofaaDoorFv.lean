import Derived.Test.YthoilicolakofaaDoorFo
import Derived.Test.YthoilicolakofaaDoorFk
namespace Go.Proofs.YthoilicolakofaaDoor
open Go.ChangeShapes Go.WideShapes Go.ChangeAt Go.RowKit
set_option linter.unusedVariables false
set_option linter.unusedSimpArgs false

set_option maxRecDepth 100000 in
theorem markDecC {w : World} {B : Nat} {v : Value} {zs : List Int} (tk fl : Int) (h : Own w B v zs) (hB : B ≤ w.heap.size) (hl : zs.length ≤ 1000000000) (k0 : Nat) (hk0 : k0 ≤ 1000000000) :
    Calls Tryd.prog 12 #[.agg #[v, .int .i64 tk, .int .i64 fl], .int .i64 (k0 : Int)] w fun e w' => e = .returned (.int .i64 ((k0 + zs.length : Nat) : Int)) ∧ Below B w w' ∧ w.heap.size ≤ w'.heap.size ∧ (∀ b, b < w.heap.size → v.ownBlock ≠ Option.some b → w'.heap[b]? = w.heap[b]?) ∧ (∃ a cap, v = .slice a zs.length cap ∧ Seg w' a zs.length (mk8 k0)) := by
  obtain ⟨a, cap, rfl, _⟩ := h.any
  obtain ⟨L, hL⟩ : ∃ L, zs.length = L := ⟨_, rfl⟩
  obtain ⟨W, hW⟩ : ∃ W, w.alloc (.cells #[.slice a zs.length cap, .int .i64 tk, .int .i64 fl] 26) = W := ⟨_, rfl⟩
  have bW : Below w.heap.size w W := by rw [← hW]; exact (Below.refl _ _).alloc (Nat.le_refl _) _
  have k1 : W.cell? ⟨w.heap.size, 0, none⟩ = some (.slice a zs.length cap) := by rw [← hW]; simp
  have HM := hid (markOwn2 (show Own W B (.slice a zs.length cap) zs by rw [← hW]; exact World.ownsRow.alloc h _) hl k0 hk0)
  have HB := hid bW
  have HL := hid hL
  rw [hL] at HM k1 hW ⊢
  clear h bW hL
  go_enter Tryd.func12, Tryd.ntmps12
  go_wp2_with fail
  try rw [hW]
  clear hW
  refine HM.out.mono ?_
  rintro e w1 ⟨rfl, b1, z1, o1, s1⟩
  have HR := hid (And.intro b1 (And.intro z1 (And.intro o1 s1)))
  clear b1 z1 o1 s1 HM
  go_wp2_with fail
  go_ret
  exact ⟨rfl, (HB.out.mono hB).trans HR.out.1, by rw [HR.out.2.1]; exact HB.out.size, fun b hb hne => (HR.out.2.2.1 b hne).trans (HB.out.block b hb), HR.out.2.2.2⟩

set_option maxRecDepth 100000 in
theorem heldDecC (a : Option Addr) (n cap k0 : Nat) (tk fl : Int) (w : World) (hk0 : k0 ≤ 1000000000) (hn1 : n ≤ 1000000000) (h : Seg w a n (mk8 k0)) :
    Calls Tryd.prog 15 #[.agg #[.slice a n cap, .int .i64 tk, .int .i64 fl], .int .i64 (k0 : Int)] w fun e w' => e = .returned (.int .i64 ((k0 + n : Nat) : Int)) ∧ Below w.heap.size w w' := by
  obtain ⟨W, hW⟩ : ∃ W, w.alloc (.cells #[.slice a n cap, .int .i64 tk, .int .i64 fl] 26) = W := ⟨_, rfl⟩
  have bW : Below w.heap.size w W := by rw [← hW]; exact (Below.refl _ _).alloc (Nat.le_refl _) _
  have k1 : W.cell? ⟨w.heap.size, 0, none⟩ = some (.slice a n cap) := by rw [← hW]; simp
  have HM := hid (heldB a n cap k0 W (by omega) hn1 (h.below bW))
  rw [show ((k0 + n : Nat) : Int) = (k0 : Int) + (n : Int) by push_cast; rfl] at HM ⊢
  have hd : decide ((k0 : Int) + (n : Int) < 0) = false := by simp; omega
  have HB := hid bW
  clear h bW
  go_enter Tryd.func15, Tryd.ntmps15
  go_wp2_with fail
  try rw [hW]
  clear hW
  refine HM.out.mono ?_
  rintro e w1 ⟨rfl, rfl⟩
  clear HM
  go_wp2_with fail
  go_ret
  exact ⟨rfl, HB.out⟩

set_option maxRecDepth 100000 in
theorem eqDecS (T F : Int) (a a' : Option Addr) (n c c' : Nat) (f : Nat → Int) (w : World) (hn : n ≤ 1000000000) (s : Seg w a n f) (s' : Seg w a' n f) :
    Calls Tryd.prog 9 #[.agg #[.slice a n c, .int .i64 T, .int .i64 F], .agg #[.slice a' n c', .int .i64 T, .int .i64 F]] w fun e w' => e = .returned (.bool true) ∧ Below w.heap.size w w' := by
  have HB0 : Hid (Below w.heap.size w ((w.alloc (.cells #[.slice a n c, .int .i64 T, .int .i64 F] 26)).alloc (.cells #[.slice a' n c', .int .i64 T, .int .i64 F] 26))) := belA _ _ _
  have HE := hid (eqB2 a a' n c c' f _ hn (s.below HB0.out) (s'.below HB0.out))
  clear s s'
  go_enter Tryd.func9, Tryd.ntmps9
  go_wp2_with fail
  refine HE.out.mono ?_
  rintro e w1 ⟨rfl, b1⟩
  have HB1 := hid (HB0.out.trans (b1.mono HB0.out.size))
  have x1 := (b1.cell (p := ⟨w.heap.size, 1, none⟩) (by show w.heap.size < _; simp; omega))
  have x2 := (b1.cell (p := ⟨w.heap.size, 2, none⟩) (by show w.heap.size < _; simp; omega))
  have y1 := (b1.cell (p := ⟨w.heap.size + 1, 1, none⟩) (by show w.heap.size + 1 < _; simp))
  have y2 := (b1.cell (p := ⟨w.heap.size + 1, 2, none⟩) (by show w.heap.size + 1 < _; simp))
  simp at x1 x2 y1 y2
  clear b1 HE
  go_wp2_with fail
  go_ret
  exact ⟨rfl, HB1.out⟩
end Go.Proofs.YthoilicolakofaaDoor
