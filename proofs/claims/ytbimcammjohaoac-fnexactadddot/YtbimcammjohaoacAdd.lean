import Derived.Test.YtbimcammjohaoacUnL
import Derived.Lib.SmallJoins
namespace Go.Proofs.Ytbimcammjohaoac
open Go.ChangeShapes Go.WideShapes Go.ChangeAt Go.RowKit Go.Maps Go.Sort
set_option linter.unusedVariables false
set_option linter.unusedSimpArgs false

set_option maxRecDepth 100000 in
set_option maxHeartbeats 1000000 in
theorem implAd (a : Option Addr) (n c : Nat) (R F T : Nat → Int) (r s : Int) (w : World) (hn : n ≤ 1048576) (h : RSeg w a n R F T) :
    Calls Try.prog 25 #[.agg #[.slice a n c], .agg #[.int .i64 r, .int .i64 s]] w fun e w' => ∃ v, e = .returned (.tuple #[.agg #[v], .bool (unB R F T n (fun _ => r) (fun _ => s) (fun _ => s) 1)]) ∧ FR w' w.heap.size v (unZ R F T n (fun _ => r) (fun _ => s) (fun _ => s) 1) ∧ Below w.heap.size w w' := by
  obtain ⟨W1, hW1⟩ : ∃ W1, ((w.alloc (.cells #[.slice a n c] 41)).alloc (.cells #[.int .i64 r, .int .i64 s] 51)) = W1 := ⟨_, rfl⟩
  have b1 : Below w.heap.size w W1 := by rw [← hW1]; exact below2 _ _ _
  have z1 : W1.heap.size = w.heap.size + 2 := by rw [← hW1]; simp
  obtain ⟨W2, hW2⟩ : ∃ W2, W1.alloc (.cells #[.slice none 0 0] 41) = W2 := ⟨_, rfl⟩
  have b2 : Below W1.heap.size W1 W2 := by rw [← hW2]; exact (Below.refl _ _).alloc (Nat.le_refl _) _
  have z2 : W2.heap.size = w.heap.size + 3 := by rw [← hW2]; simp; omega
  have x2 : W2.cell? ⟨w.heap.size + 1 + 1, 0, none⟩ = some (.slice none 0 0) := by rw [← hW2, show w.heap.size + 1 + 1 = W1.heap.size from by omega]; simp
  have y2 : W2.frozen? ⟨w.heap.size + 1 + 1, 0, none⟩ = false := by rw [← hW2, show w.heap.size + 1 + 1 = W1.heap.size from by omega]; simp
  obtain ⟨W3, hW3⟩ : ∃ W3, W2.alloc (.cells #[.int .i64 r, .int .i64 s, .int .i64 s] 78) = W3 := ⟨_, rfl⟩
  have b3 : Below W2.heap.size W2 W3 := by rw [← hW3]; exact (Below.refl _ _).alloc (Nat.le_refl _) _
  have z3 : W3.heap.size = w.heap.size + 4 := by rw [← hW3]; simp; omega
  have hW3' : (((w.alloc (.cells #[.slice a n c] 41)).alloc (.cells #[.int .i64 r, .int .i64 s] 51)).alloc (.cells #[.slice none 0 0] 41)).alloc (.cells #[.int .i64 r, .int .i64 s, .int .i64 s] 78) = W3 := by rw [hW1, hW2, hW3]
  have sg : RSeg W3 (some ⟨w.heap.size + 1 + 1 + 1, 0, none⟩) 1 (fun _ => r) (fun _ => s) (fun _ => s) := .inr ⟨_, 0, rfl, by omega, fun i hi => by
    obtain rfl : i = 0 := by omega
    rw [← hW3, show w.heap.size + 1 + 1 + 1 = W2.heap.size from by omega]
    exact ⟨by simp, by simp, by simp⟩⟩
  have x3 := (b3.cell (p := ⟨w.heap.size + 1 + 1, 0, none⟩) (show w.heap.size + 1 + 1 < W2.heap.size by omega)).trans x2
  have y3 := (b3.frozen (p := ⟨w.heap.size + 1 + 1, 0, none⟩) (show w.heap.size + 1 + 1 < W2.heap.size by omega)).trans y2
  have B3 := keepS (keepS b1 b2) b3
  have HU := hid (implUn a n c R F T (some ⟨w.heap.size + 1 + 1 + 1, 0, none⟩) 1 1 (fun _ => r) (fun _ => s) (fun _ => s) W3 hn (by omega) (h.below B3) sg)
  have HB := hid B3
  generalize unB R F T n (fun _ => r) (fun _ => s) (fun _ => s) 1 = ub at *
  generalize unZ R F T n (fun _ => r) (fun _ => s) (fun _ => s) 1 = uz at *
  clear hW1 hW2 hW3 b1 b2 b3 B3 sg x2 y2 h
  go_enter Try.func25, Try.ntmps25
  go_wp2_with fail
  try rw [hW3']
  clear hW3'
  refine HU.out.mono ?_
  rintro e w4 ⟨v, rfl, o4, b4⟩
  obtain ⟨y, m, cc, rfl⟩ := row_form o4
  have z4 := b4.size
  have x4 := (b4.cell (p := ⟨w.heap.size + 1 + 1, 0, none⟩) (show w.heap.size + 1 + 1 < W3.heap.size by omega)).trans x3
  have y4 := (b4.frozen (p := ⟨w.heap.size + 1 + 1, 0, none⟩) (show w.heap.size + 1 + 1 < W3.heap.size by omega)).trans y3
  have k6 := World.cell?_setCell_same w4 ⟨w.heap.size + 1 + 1, 0, none⟩ (.slice y m cc) x4
  have HB6 : Hid (Below w.heap.size w (w4.setCell ⟨w.heap.size + 1 + 1, 0, none⟩ (.slice y m cc))) := hid ((keepS HB.out b4).setCell (p := ⟨w.heap.size + 1 + 1, 0, none⟩) (by show w.heap.size ≤ w.heap.size + 1 + 1; omega) _)
  have HF6 : Hid (FR (w4.setCell ⟨w.heap.size + 1 + 1, 0, none⟩ (.slice y m cc)) w.heap.size (.slice y m cc) uz) := hid (FR.weak (ownsRow_setCell_below o4 (a := ⟨w.heap.size + 1 + 1, 0, none⟩) (by show w.heap.size + 1 + 1 < _; omega) _) (by omega))
  clear HU HB o4 b4 x3 y3
  go_wp2_with fail
  exact bodyPost_ret (v := .tuple #[.agg #[.slice y m cc], .bool ub]) (by simp [results, Try.results25, go_sem, k6]) rfl ⟨_, rfl, HF6.out, HB6.out⟩

set_option maxRecDepth 100000 in
set_option maxHeartbeats 1000000 in
theorem specAd (g off : Nat) (n c : Nat) (R F T : Nat → Int) (r s : Int) (w : World) (hn : n ≤ 1048576) (h : RSeg w (some ⟨g, off, none⟩) n R F T) :
    Calls Try.prog 23 #[.agg #[.slice (some ⟨g, off, none⟩) n c], .agg #[.int .i64 r, .int .i64 s]] w fun e w' => ∃ v, e = .returned (.tuple #[.agg #[v], .bool (unB R F T n (fun _ => r) (fun _ => s) (fun _ => s) 1)]) ∧ FR w' w.heap.size v (unZ R F T n (fun _ => r) (fun _ => s) (fun _ => s) 1) ∧ Below w.heap.size w w' := by
  obtain ⟨W1, hW1⟩ : ∃ W1, ((w.alloc (.cells #[.slice (some ⟨g, off, none⟩) n c] 41)).alloc (.cells #[.int .i64 r, .int .i64 s] 51)) = W1 := ⟨_, rfl⟩
  have b1 : Below w.heap.size w W1 := by rw [← hW1]; exact below2 _ _ _
  have z1 : W1.heap.size = w.heap.size + 2 := by rw [← hW1]; simp
  obtain ⟨W2, hW2⟩ : ∃ W2, W1.alloc (.cells #[.slice none 0 0] 41) = W2 := ⟨_, rfl⟩
  have b2 : Below W1.heap.size W1 W2 := by rw [← hW2]; exact (Below.refl _ _).alloc (Nat.le_refl _) _
  have z2 : W2.heap.size = w.heap.size + 3 := by rw [← hW2]; simp; omega
  have x2 : W2.cell? ⟨w.heap.size + 1 + 1, 0, none⟩ = some (.slice none 0 0) := by rw [← hW2, show w.heap.size + 1 + 1 = W1.heap.size from by omega]; simp
  have y2 : W2.frozen? ⟨w.heap.size + 1 + 1, 0, none⟩ = false := by rw [← hW2, show w.heap.size + 1 + 1 = W1.heap.size from by omega]; simp
  obtain ⟨W3, hW3⟩ : ∃ W3, W2.alloc (.cells #[.int .i64 r, .int .i64 s, .int .i64 s] 78) = W3 := ⟨_, rfl⟩
  have b3 : Below W2.heap.size W2 W3 := by rw [← hW3]; exact (Below.refl _ _).alloc (Nat.le_refl _) _
  have z3 : W3.heap.size = w.heap.size + 4 := by rw [← hW3]; simp; omega
  have hW3' : (((w.alloc (.cells #[.slice (some ⟨g, off, none⟩) n c] 41)).alloc (.cells #[.int .i64 r, .int .i64 s] 51)).alloc (.cells #[.slice none 0 0] 41)).alloc (.cells #[.int .i64 r, .int .i64 s, .int .i64 s] 78) = W3 := by rw [hW1, hW2, hW3]
  have sg : RSeg W3 (some ⟨w.heap.size + 1 + 1 + 1, 0, none⟩) 1 (fun _ => r) (fun _ => s) (fun _ => s) := .inr ⟨_, 0, rfl, by omega, fun i hi => by
    obtain rfl : i = 0 := by omega
    rw [← hW3, show w.heap.size + 1 + 1 + 1 = W2.heap.size from by omega]
    exact ⟨by simp, by simp, by simp⟩⟩
  have x3 := (b3.cell (p := ⟨w.heap.size + 1 + 1, 0, none⟩) (show w.heap.size + 1 + 1 < W2.heap.size by omega)).trans x2
  have y3 := (b3.frozen (p := ⟨w.heap.size + 1 + 1, 0, none⟩) (show w.heap.size + 1 + 1 < W2.heap.size by omega)).trans y2
  have B3 := keepS (keepS b1 b2) b3
  have HU := hid (specUn g off n c R F T (some ⟨w.heap.size + 1 + 1 + 1, 0, none⟩) 1 1 (fun _ => r) (fun _ => s) (fun _ => s) W3 hn (by omega) (h.below B3) sg)
  have HB := hid B3
  generalize unB R F T n (fun _ => r) (fun _ => s) (fun _ => s) 1 = ub at *
  generalize unZ R F T n (fun _ => r) (fun _ => s) (fun _ => s) 1 = uz at *
  clear hW1 hW2 hW3 b1 b2 b3 B3 sg x2 y2 h
  go_enter Try.func23, Try.ntmps23
  go_wp2_with fail
  try rw [hW3']
  clear hW3'
  refine HU.out.mono ?_
  rintro e w4 ⟨v, rfl, o4, b4⟩
  obtain ⟨y, m, cc, rfl⟩ := row_form o4
  have z4 := b4.size
  have x4 := (b4.cell (p := ⟨w.heap.size + 1 + 1, 0, none⟩) (show w.heap.size + 1 + 1 < W3.heap.size by omega)).trans x3
  have y4 := (b4.frozen (p := ⟨w.heap.size + 1 + 1, 0, none⟩) (show w.heap.size + 1 + 1 < W3.heap.size by omega)).trans y3
  have k6 := World.cell?_setCell_same w4 ⟨w.heap.size + 1 + 1, 0, none⟩ (.slice y m cc) x4
  have HB6 : Hid (Below w.heap.size w (w4.setCell ⟨w.heap.size + 1 + 1, 0, none⟩ (.slice y m cc))) := hid ((keepS HB.out b4).setCell (p := ⟨w.heap.size + 1 + 1, 0, none⟩) (by show w.heap.size ≤ w.heap.size + 1 + 1; omega) _)
  have HF6 : Hid (FR (w4.setCell ⟨w.heap.size + 1 + 1, 0, none⟩ (.slice y m cc)) w.heap.size (.slice y m cc) uz) := hid (FR.weak (ownsRow_setCell_below o4 (a := ⟨w.heap.size + 1 + 1, 0, none⟩) (by show w.heap.size + 1 + 1 < _; omega) _) (by omega))
  clear HU HB o4 b4 x3 y3
  go_wp2_with fail
  exact bodyPost_ret (v := .tuple #[.agg #[.slice y m cc], .bool ub]) (by simp [results, Try.results23, go_sem, k6]) rfl ⟨_, rfl, HF6.out, HB6.out⟩

set_option maxRecDepth 100000 in
theorem toDotL (r q : Int) (w : World) :
    Calls Try.prog 24 #[.agg #[.int .i64 r, .int .i64 q]] w fun e w' => e = .returned (.agg #[.int .i64 r, .int .i64 q]) ∧ Below w.heap.size w w' := by
  have HB : Hid (∀ o1 o2 o3, Below w.heap.size w (((w.alloc o1).alloc o2).alloc o3)) := fun o1 o2 o3 => (((Below.refl _ _).alloc (Nat.le_refl _) _).alloc (by simp) _).alloc (by simp; omega) _
  go_enter Try.func24, Try.ntmps24
  go_wp2_with fail
  exact bodyPost_ret (v := .agg #[.int .i64 r, .int .i64 q]) (by simp [results, Try.results24, go_sem]) rfl ⟨rfl, HB.out _ _ _⟩
set_option maxRecDepth 100000 in
theorem openDot {H : Type} {enc : TypeId × Value → H} {W : World} {r : Reach} {b0 base : Nat} {spare : Nat → Bool} {held : Bool} {v : Value} {d : DataW H} {p : List MemPlace}
    (hval : Value.okWide Try.prog W r b0 49 v) (h : DataW.Trod enc Try.prog W base spare held 49 v d p) :
    ∃ x y, v = .agg #[.int .i64 x, .int .i64 y] ∧ (Lit.int .i64 x).wf = true ∧ (Lit.int .i64 y).wf = true := by
  obtain ⟨c0, c1, y0, y1, m, rfl, rfl, rfl, g0, g1⟩ := Go.Joins.open_agg2 Try.underlying49 (by kernel_rfl) (show Try.prog.cellsOf 49 = 2 by kernel_rfl) hval h
  obtain ⟨z0, q0, _, wf0⟩ := DataW.trod_int Try.underlying3 g0
  obtain ⟨z1, q1, _, wf1⟩ := DataW.trod_int Try.underlying3 g1
  simp at q0 q1
  subst q0 q1
  exact ⟨z0, z1, rfl, wf0, wf1⟩
end Go.Proofs.Ytbimcammjohaoac
