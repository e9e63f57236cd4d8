import Derived.Test.YtbimcammjohaoabHas3
import Derived.Test.YtbimcammjohaoabOpen
namespace Go.Proofs.Ytbimcammjohaoab
open Go.ChangeShapes Go.WideShapes Go.ChangeAt Go.RowKit Go.Maps
set_option linter.unusedVariables false
set_option linter.unusedSimpArgs false

theorem below3 (w : World) (o o' o'' : Obj) : Below w.heap.size w (((w.alloc o).alloc o').alloc o'') := (below2 w o o').alloc (by simp; omega) _

set_option maxHeartbeats 400000 in
theorem toDot (r q : Int) (w : World) :
    Calls Try.prog 15 #[.agg #[.int .i64 r, .int .i64 q]] w fun e w' => e = .returned (.agg #[.int .i64 r, .int .i64 q]) ∧ Below w.heap.size w w' := by
  go_enter Try.func15, Try.ntmps15
  go_wp2
  exact bodyPost_ret (v := .agg #[.int .i64 r, .int .i64 q]) (by simp [results, Try.results15, go_sem]) rfl ⟨rfl, below3 _ _ _ _⟩

def hasB (R F T : Nat → Int) (r q : Int) (n : Nat) : Bool := ctxB R F T n && hasK R F T r q q n

set_option maxRecDepth 100000 in
set_option maxHeartbeats 400000 in
theorem specHas (a : Option Addr) (n c : Nat) (R F T : Nat → Int) (r q : Int) (w : World) (hn : n ≤ 1048576) (h : RSeg w a n R F T) :
    Calls Try.prog 14 #[.agg #[.slice a n c], .agg #[.int .i64 r, .int .i64 q]] w fun e w' => e = .returned (.bool (hasB R F T r q n)) ∧ Below w.heap.size w w' := by
  obtain ⟨W0, hW0⟩ : ∃ W0, (w.alloc (.cells #[.slice a n c] 29)).alloc (.cells #[.int .i64 r, .int .i64 q] 37) = W0 := ⟨_, rfl⟩
  have bW : Below w.heap.size w W0 := by rw [← hW0]; exact below2 _ _ _
  have hbox : W0.cell? ⟨w.heap.size, 0, none⟩ = some (.slice a n c) := by rw [← hW0]; simp
  have x0 : W0.cell? ⟨w.heap.size + 1, 0, none⟩ = some (.int .i64 r) := by rw [← hW0]; simp
  have x1 : W0.cell? ⟨w.heap.size + 1, 1, none⟩ = some (.int .i64 q) := by rw [← hW0]; simp
  have zW : W0.heap.size = w.heap.size + 2 := by rw [← hW0]; simp
  have h1 := h.below bW
  go_enter Try.func14, Try.ntmps14
  go_wp2_with fail
  try rw [hW0]
  clear hW0
  refine (specOk a n c R F T _ hn h1).mono ?_
  rintro e w1 ⟨rfl, b1⟩
  have b0 := (b1.cell (p := ⟨w.heap.size, 0, none⟩) (show w.heap.size < W0.heap.size by omega)).trans hbox
  have y0 := (b1.cell (p := ⟨w.heap.size + 1, 0, none⟩) (show w.heap.size + 1 < W0.heap.size by omega)).trans x0
  have y1 := (b1.cell (p := ⟨w.heap.size + 1, 1, none⟩) (show w.heap.size + 1 < W0.heap.size by omega)).trans x1
  have h2 := h1.below b1
  have B1 := keepS bW b1
  clear hbox x0 x1 h1 b1 bW h
  cases hcx : ctxB R F T n with
  | false =>
    have HE : Hid (hasB R F T r q n = false) := by unfold Hid hasB; rw [hcx]; rfl
    have HB := hid B1
    clear B1 h2 hcx
    go_wp2_with fail
    go_ret
    exact ⟨retB HE.out.symm, HB.out⟩
  | true =>
    have HE : Hid (hasB R F T r q n = hasK R F T r q q n) := by unfold Hid hasB; rw [hcx]; rfl
    have HC := hid (l2Has a n c R F T r q _ hn h2)
    have HB := hid B1
    clear B1 h2 hcx
    go_wp2_with fail
    refine HC.out.mono ?_
    rintro e w2 ⟨rfl, b2⟩
    have HZ := hid (keepS HB.out b2)
    clear b2 HC
    go_wp2_with fail
    go_ret
    exact ⟨retB HE.out.symm, HZ.out⟩

set_option maxRecDepth 100000 in
set_option maxHeartbeats 400000 in
theorem implHas (a : Option Addr) (n c : Nat) (R F T : Nat → Int) (r q : Int) (w : World) (hn : n ≤ 1048576) (h : RSeg w a n R F T) (hr : (Lit.int .i64 r).wf = true) :
    Calls Try.prog 16 #[.agg #[.slice a n c], .agg #[.int .i64 r, .int .i64 q]] w fun e w' => e = .returned (.bool (hasB R F T r q n)) ∧ Below w.heap.size w w' := by
  obtain ⟨W0, hW0⟩ : ∃ W0, (w.alloc (.cells #[.slice a n c] 29)).alloc (.cells #[.int .i64 r, .int .i64 q] 37) = W0 := ⟨_, rfl⟩
  have bW : Below w.heap.size w W0 := by rw [← hW0]; exact below2 _ _ _
  have hbox : W0.cell? ⟨w.heap.size, 0, none⟩ = some (.slice a n c) := by rw [← hW0]; simp
  have x0 : W0.cell? ⟨w.heap.size + 1, 0, none⟩ = some (.int .i64 r) := by rw [← hW0]; simp
  have x1 : W0.cell? ⟨w.heap.size + 1, 1, none⟩ = some (.int .i64 q) := by rw [← hW0]; simp
  have zW : W0.heap.size = w.heap.size + 2 := by rw [← hW0]; simp
  have h1 := h.below bW
  clear h
  cases hcx : ctxB R F T n with
  | false =>
    have HE : Hid (hasB R F T r q n = false) := by unfold Hid hasB; rw [hcx]; rfl
    go_enter Try.func16, Try.ntmps16
    go_wp2_with fail
    try rw [hW0]
    clear hW0
    refine (openC_no a n c R F T _ hn h1 hcx).mono ?_
    rintro e w1 ⟨rfl, b1⟩
    have HB := hid (keepS bW b1)
    clear hbox x0 x1 h1 b1 bW hcx
    go_wp2_with fail
    go_ret
    exact ⟨retB HE.out.symm, HB.out⟩
  | true =>
    have hokT := ctxB_iff.1 hcx
    have HE : Hid (hasB R F T r q n = inB (Lk R F T n r) q q) := by unfold Hid hasB; rw [hcx, in_hasK]; rfl
    have HS := hid (Lk_srt n hokT.1 r).1
    have hlen := Lk_len R F T n r
    have hn1 := hokT.2
    clear hokT
    go_enter Try.func16, Try.ntmps16
    go_wp2_with fail
    try rw [hW0]
    clear hW0
    refine (openC a n c R F T _ hn h1 hcx).mono ?_
    rintro e w1 ⟨bm, D, G, rfl, hgrp, hbm, b1⟩
    have y0 := (b1.cell (p := ⟨w.heap.size + 1, 0, none⟩) (show w.heap.size + 1 < W0.heap.size by omega)).trans x0
    have y1 := (b1.cell (p := ⟨w.heap.size + 1, 1, none⟩) (show w.heap.size + 1 < W0.heap.size by omega)).trans x1
    have HC := hid (hasM hgrp r q hr HS.out (by omega))
    have HB := hid (keepS bW b1)
    clear hbox x0 x1 h1 b1 bW hcx hgrp
    go_wp2_with fail
    refine HC.out.mono ?_
    rintro e w2 ⟨rfl, b2⟩
    have HZ := hid (keepS HB.out b2)
    clear b2 HC
    go_wp2_with fail
    go_ret
    exact ⟨retB HE.out.symm, HZ.out⟩

theorem openDot {H : Type} {enc : TypeId × Value → H} {W : World} {r : Reach} {b0 base : Nat} {spare : Nat → Bool} {held : Bool} {v : Value} {d : DataW H} {p : List MemPlace}
    (hval : Value.okWide Try.prog W r b0 35 v) (h : DataW.Trod enc Try.prog W base spare held 35 v d p) :
    ∃ x y, v = .agg #[.int .i64 x, .int .i64 y] ∧ (Lit.int .i64 x).wf = true ∧ (Lit.int .i64 y).wf = true := by
  obtain ⟨c0, c1, y0, y1, m, rfl, rfl, rfl, g0, g1⟩ := Go.Joins.open_agg2 Try.underlying35 (by kernel_rfl) (show Try.prog.cellsOf 35 = 2 by kernel_rfl) hval h
  obtain ⟨z0, q0, _, wf0⟩ := DataW.trod_int Try.underlying3 g0
  obtain ⟨z1, q1, _, wf1⟩ := DataW.trod_int Try.underlying3 g1
  simp at q0 q1
  subst q0 q1
  exact ⟨z0, z1, rfl, wf0, wf1⟩
end Go.Proofs.Ytbimcammjohaoab
