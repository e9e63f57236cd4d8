import Derived.Test.YthoilicolakofaaDoorOb
import Derived.Test.YthoilicolakofaaDoorByo
import Derived.Deep.Slices
import Derived.Deep.SlicePairs
import Derived.Deep.Strs
import Derived.Lib.SmallJoins
namespace Go.Proofs.YthoilicolakofaaDoor
open Go.ChangeShapes Go.WideShapes Go.ChangeAt Go.RowKit Go.Deep
set_option linter.unusedVariables false
set_option linter.unusedSimpArgs false

theorem belA (w : World) (o o' : Obj) : Below w.heap.size w ((w.alloc o).alloc o') := ((Below.refl _ _).alloc (Nat.le_refl _) _).alloc (by simp) _
def szL (n : Nat) : Int := if n ≤ 1048576 then 1048576 - (n : Int) else -1
theorem szByteC (a : Option Addr) (n c : Nat) (w : World) (hn : n ≤ 9223372036854775807) :
    Calls Tryd.prog 17 #[.slice a n c, .int .i64 1048576] w fun e w' => e = .returned (.int .i64 (szL n)) ∧ w' = w := by
  have e1 : IntKind.i64.wrap (1048576 - (n : Int)) = 1048576 - (n : Int) := by rw [IntKind.wrap_i64]; omega
  by_cases h : n ≤ 1048576
  · have HZ : Hid (szL n = 1048576 - (n : Int)) := hid (if_pos h)
    have d0 : decide (1048576 - (n : Int) < 0) = false := by simp; omega
    rw [HZ.out]
    go_enter Tryd.func17, Tryd.ntmps17
    go_wp2_with fail
    go_ret
    exact ⟨rfl, rfl⟩
  · have HZ : Hid (szL n = -1) := hid (if_neg h)
    have d0 : decide (1048576 - (n : Int) < 0) = true := by simp; omega
    rw [HZ.out]
    go_enter Tryd.func17, Tryd.ntmps17
    go_wp2_with fail
    go_ret
    exact ⟨rfl, rfl⟩

theorem szDecC (T F : Int) (a : Option Addr) (n c : Nat) (w : World) (hn : n ≤ 9223372036854775807) :
    Calls Tryd.prog 4 #[.agg #[.slice a n c, .int .i64 T, .int .i64 F], .int .i64 1048576] w fun e w' => e = .returned (.int .i64 (szL n)) ∧ Below w.heap.size w w' := by
  have HS := hid (fun w' => szByteC a n c w' hn)
  have HB0 : Hid (Below w.heap.size w (w.alloc (.cells #[.slice a n c, .int .i64 T, .int .i64 F] 24))) := (Below.refl _ _).alloc (Nat.le_refl _) _
  by_cases h : n ≤ 1048576
  · have HZ : Hid (szL n = 1048576 - (n : Int)) := hid (if_pos h)
    rw [HZ.out] at HS ⊢
    have d0 : decide (1048576 - (n : Int) < 0) = false := by simp; omega
    go_enter Tryd.func4, Tryd.ntmps4
    go_wp2_with fail
    refine (HS.out _).mono ?_
    rintro e w' ⟨rfl, rfl⟩
    go_wp2_with fail
    go_ret
    exact ⟨rfl, HB0.out⟩
  · have HZ : Hid (szL n = -1) := hid (if_neg h)
    rw [HZ.out] at HS ⊢
    go_enter Tryd.func4, Tryd.ntmps4
    go_wp2_with fail
    refine (HS.out _).mono ?_
    rintro e w' ⟨rfl, rfl⟩
    go_wp2_with fail
    go_ret
    exact ⟨rfl, HB0.out⟩

set_option maxRecDepth 100000 in
theorem eqDecC (T F : Int) (v v' : Value) (B B' : Nat) (zs : List Int) (w : World) (hn : zs.length ≤ 1000000000) (h : Own w B v zs) (h' : Own w B' v' zs) :
    Calls Tryd.prog 9 #[.agg #[v, .int .i64 T, .int .i64 F], .agg #[v', .int .i64 T, .int .i64 F]] w fun e w' => e = .returned (.bool true) ∧ Below w.heap.size w w' := by
  obtain ⟨a, c, rfl, s⟩ := h.any
  obtain ⟨a', c', rfl, s'⟩ := h'.any
  have HB0 : Hid (Below w.heap.size w ((w.alloc (.cells #[.slice a zs.length c, .int .i64 T, .int .i64 F] 26)).alloc (.cells #[.slice a' zs.length c', .int .i64 T, .int .i64 F] 26))) := belA _ _ _
  have HE := hid (eqB2 a a' zs.length c c' _ _ hn (s.below HB0.out) (s'.below HB0.out))
  clear h h' s s'
  go_enter Tryd.func9, Tryd.ntmps9
  go_wp2_with fail
  refine HE.out.mono ?_
  rintro e w1 ⟨rfl, b1⟩
  have HB1 := hid (HB0.out.trans (b1.mono HB0.out.size))
  have x1 := (b1.cell (p := ⟨w.heap.size, 1, none⟩) (by show w.heap.size < _; simp; omega))
  have x2 := (b1.cell (p := ⟨w.heap.size, 2, none⟩) (by show w.heap.size < _; simp; omega))
  have y1 := (b1.cell (p := ⟨w.heap.size + 1, 1, none⟩) (by show w.heap.size + 1 < _; simp))
  have y2 := (b1.cell (p := ⟨w.heap.size + 1, 2, none⟩) (by show w.heap.size + 1 < _; simp))
  simp at x1 x2 y1 y2
  clear b1 HE
  go_wp2_with fail
  go_ret
  exact ⟨rfl, HB1.out⟩

set_option maxRecDepth 100000 in
theorem openDec {H : Type} {enc : TypeId × Value → H} {W : World} {r : Reach} {b0 base : Nat} {held : Bool} {v : Value} {d : DataW H} {p : List MemPlace}
    (hval : Value.okWide Tryd.prog W r b0 24 v) (h : DataW.Trod enc Tryd.prog W base (fun _ => true) held 24 v d p) :
    ∃ a n c f T F, v = .agg #[.slice a n c, .int .i64 T, .int .i64 F] ∧ (Lit.int .i64 T).wf = true ∧ (Lit.int .i64 F).wf = true ∧ n ≤ 9223372036854775807 ∧ Seg W a n f ∧ Byt f := by
  obtain ⟨cs, rfl, hsz⟩ := okWide_struct Tryd.underlying24 hval
  have h3 : cs.size = 3 := hsz.trans (show Tryd.prog.cellsOf 24 = 3 by kernel_rfl)
  obtain ⟨c0, c1, c2, rfl⟩ : ∃ c0 c1 c2, cs = #[c0, c1, c2] := by
    obtain ⟨l⟩ := cs
    match l, h3 with
    | [x, y, z], _ => exact ⟨x, y, z, rfl⟩
  obtain ⟨fuel, hf⟩ := h
  obtain ⟨y0, y1, y2, k', _, _, g0, g1, g2⟩ := trod_struct3 Tryd.underlying24 hf
  have e1 : Tryd.prog.cellsOf 22 = 1 := by kernel_rfl
  have ei : Tryd.prog.cellsOf 3 = 1 := by kernel_rfl
  simp [Value.cells, e1, ei] at g0 g1 g2
  obtain ⟨z1, q1, _, wf1⟩ := DataW.trod_int Tryd.underlying3 g1
  obtain ⟨z2, q2, _, wf2⟩ := DataW.trod_int Tryd.underlying3 g2
  simp at q1 q2
  subst q1 q2
  rcases open_ints Tryd.underlying22 Tryd.underlying5 (by kernel_rfl) g0 with ⟨hcs, _⟩ | ⟨x, l, c, zs, hcs, _, hl, hm, hz, _, hcell, hwz⟩
  · simp at hcs
    subst hcs
    exact ⟨none, 0, 0, fun _ => 0, z1, z2, rfl, wf1, wf2, by omega, .inl rfl, fun _ => ⟨by simp, by simp⟩⟩
  · simp at hcs
    subst hcs
    obtain ⟨s, hb, hl'⟩ := seg_of (w := W) (a0 := some x) (len0 := l) (cap0 := c) (z0 := zs) (.inr ⟨x, rfl, hl, hm, by first | exact hz | simpa using hz | omega, hcell, hwz⟩)
    exact ⟨some x, l, c, _, z1, z2, rfl, wf1, wf2, hl', s, hb⟩

theorem boxD {w4 : World} {B : Nat} {u0 u1 u2 : Value} (a b c : Value) (r0 : w4.cell? ⟨B + 1, 0, none⟩ = some u0) (r1 : w4.cell? ⟨B + 1, 1, none⟩ = some u1) (r2 : w4.cell? ⟨B + 1, 2, none⟩ = some u2) :
    ∃ Z, Z = (((((w4.setCell ⟨B + 2, 0, none⟩ a).setCell ⟨B + 2, 1, none⟩ b).setCell ⟨B + 2, 2, none⟩ c).setCell ⟨B + 1, 0, none⟩ a).setCell ⟨B + 1, 1, none⟩ b).setCell ⟨B + 1, 2, none⟩ c ∧ Z.cell? ⟨B + 1, 0, none⟩ = some a ∧ Z.cell? ⟨B + 1, 1, none⟩ = some b ∧ Z.cell? ⟨B + 1, 2, none⟩ = some c ∧ Z.heap.size = w4.heap.size ∧ (Z.os = w4.os ∧ Z.tape = w4.tape ∧ Z.output = w4.output) ∧ ∀ q, q ≠ B + 1 → q ≠ B + 2 → Z.heap[q]? = w4.heap[q]? := by
  obtain ⟨X, hX⟩ : ∃ X, ((w4.setCell ⟨B + 2, 0, none⟩ a).setCell ⟨B + 2, 1, none⟩ b).setCell ⟨B + 2, 2, none⟩ c = X := ⟨_, rfl⟩
  have far : ∀ i, X.cell? ⟨B + 1, i, none⟩ = w4.cell? ⟨B + 1, i, none⟩ := fun i => by rw [← hX, World.cell?_setCell_far _ _ _ _ (by simp), World.cell?_setCell_far _ _ _ _ (by simp), World.cell?_setCell_far _ _ _ _ (by simp)]
  have hXs : X.heap.size = w4.heap.size := by rw [← hX]; simp [World.setCell]
  have hXf : X.os = w4.os ∧ X.tape = w4.tape ∧ X.output = w4.output := by rw [← hX]; exact ⟨rfl, rfl, rfl⟩
  have hXb : ∀ q, q ≠ B + 2 → X.heap[q]? = w4.heap[q]? := fun q hq => by rw [← hX]; exact (Below.heap_setCell _ _ _ _ hq).trans ((Below.heap_setCell _ _ _ _ hq).trans (Below.heap_setCell _ _ _ _ hq))
  have q0 := (far 0).trans r0
  have q1 := (far 1).trans r1
  have q2 := (far 2).trans r2
  have a0 := World.cell?_setCell_same X ⟨B + 1, 0, none⟩ a q0
  have a1 : (X.setCell ⟨B + 1, 0, none⟩ a).cell? ⟨B + 1, 1, none⟩ = some u1 := (World.cell?_setCell_other _ _ _ _ (by simp)).trans q1
  have a2 : ((X.setCell ⟨B + 1, 0, none⟩ a).setCell ⟨B + 1, 1, none⟩ b).cell? ⟨B + 1, 2, none⟩ = some u2 := (World.cell?_setCell_other _ _ _ _ (by simp)).trans ((World.cell?_setCell_other _ _ _ _ (by simp)).trans q2)
  refine ⟨_, rfl, ?_, ?_, ?_, ?_, ?_, fun q h1 h2 => ?_⟩
  · rw [hX]; exact (World.cell?_setCell_other _ _ _ _ (by simp)).trans ((World.cell?_setCell_other _ _ _ _ (by simp)).trans a0)
  · rw [hX]; exact (World.cell?_setCell_other _ _ _ _ (by simp)).trans (World.cell?_setCell_same _ _ _ a1)
  · rw [hX]; exact World.cell?_setCell_same _ _ _ a2
  · rw [hX]; simpa [World.setCell] using hXs
  · rw [hX]; exact hXf
  · rw [hX]; exact (Below.heap_setCell _ _ _ _ h1).trans ((Below.heap_setCell _ _ _ _ h1).trans ((Below.heap_setCell _ _ _ _ h1).trans (hXb q h2)))

set_option maxRecDepth 100000 in
set_option maxHeartbeats 1000000 in
theorem toDecC (T F : Int) (a : Option Addr) (n c : Nat) (f : Nat → Int) (w : World) (hn : n ≤ 4194304) (hf : Byt f) (h : Seg w a n f) :
    Calls Tryd.prog 6 #[.agg #[.slice a n c, .int .i64 T, .int .i64 F]] w fun e w' => ∃ g xs, e = .returned (.agg #[.slice (some ⟨g, 0, none⟩) n n, .int .i64 T, .int .i64 F]) ∧ w.heap.size ≤ g ∧ g < w'.heap.size ∧ Seg w' (some ⟨g, 0, none⟩) n f ∧ w'.ownsRow w.heap.size 5 1 (.slice (some ⟨g, 0, none⟩) n n) n xs ∧ Below w.heap.size w w' := by
  have HT : Hid (∀ w', Below w.heap.size w w' → Calls Tryd.prog 7 #[.slice a n c] w' fun e w2 => e = .returned (.slice (some ⟨w'.heap.size, 0, none⟩) n n) ∧ Seg w2 (some ⟨w'.heap.size, 0, none⟩) n f ∧ Below w'.heap.size w' w2 ∧ w'.heap.size < w2.heap.size ∧ ∃ xs, w2.ownsRow w'.heap.size 5 1 (.slice (some ⟨w'.heap.size, 0, none⟩) n n) n xs) := fun w' hb => toByteO a n c f w' hn hf (h.below hb)
  obtain ⟨W, hW⟩ : ∃ W, ((w.alloc (.cells #[.slice a n c, .int .i64 T, .int .i64 F] 24)).alloc (.cells #[.slice none 0 0, .int .i64 0, .int .i64 0] 26)).alloc (.cells #[.slice none 0 0, .int .i64 0, .int .i64 0] 26) = W := ⟨_, rfl⟩
  have bW : Below w.heap.size w W := by rw [← hW]; exact (belA _ _ _).alloc (by simp; omega) _
  have HZ : Hid (W.heap.size = w.heap.size + 3) := by rw [← hW]; exact hid (by simp)
  have s0 : W.cell? ⟨w.heap.size + 2, 0, none⟩ = some (.slice none 0 0) := by rw [← hW, World.cell?_alloc_at _ _ _ _ (by simp)]; rfl
  have s1 : W.cell? ⟨w.heap.size + 2, 1, none⟩ = some (.int .i64 0) := by rw [← hW, World.cell?_alloc_at _ _ _ _ (by simp)]; rfl
  have s2 : W.cell? ⟨w.heap.size + 2, 2, none⟩ = some (.int .i64 0) := by rw [← hW, World.cell?_alloc_at _ _ _ _ (by simp)]; rfl
  have t0 : W.cell? ⟨w.heap.size + 1, 0, none⟩ = some (.slice none 0 0) := by rw [← hW, World.cell?_alloc_past _ _ _ (by simp), World.cell?_alloc_at _ _ _ _ (by simp)]; rfl
  have t1 : W.cell? ⟨w.heap.size + 1, 1, none⟩ = some (.int .i64 0) := by rw [← hW, World.cell?_alloc_past _ _ _ (by simp), World.cell?_alloc_at _ _ _ _ (by simp)]; rfl
  have t2 : W.cell? ⟨w.heap.size + 1, 2, none⟩ = some (.int .i64 0) := by rw [← hW, World.cell?_alloc_past _ _ _ (by simp), World.cell?_alloc_at _ _ _ _ (by simp)]; rfl
  have x0 : W.cell? ⟨w.heap.size, 0, none⟩ = some (.slice a n c) := by rw [← hW, World.cell?_alloc_past _ _ _ (by simp; omega), World.cell?_alloc_past _ _ _ (by simp), World.cell?_alloc_at _ _ _ _ rfl]; rfl
  have x1 : W.cell? ⟨w.heap.size, 1, none⟩ = some (.int .i64 T) := by rw [← hW, World.cell?_alloc_past _ _ _ (by simp; omega), World.cell?_alloc_past _ _ _ (by simp), World.cell?_alloc_at _ _ _ _ rfl]; rfl
  have x2 : W.cell? ⟨w.heap.size, 2, none⟩ = some (.int .i64 F) := by rw [← hW, World.cell?_alloc_past _ _ _ (by simp; omega), World.cell?_alloc_past _ _ _ (by simp), World.cell?_alloc_at _ _ _ _ rfl]; rfl
  have fs : ∀ i, W.frozen? ⟨w.heap.size + 2, i, none⟩ = false := fun i => by rw [← hW, World.frozen?_alloc_at _ _ _ _ (by simp)]
  have ft : ∀ i, W.frozen? ⟨w.heap.size + 1, i, none⟩ = false := fun i => by rw [← hW, World.frozen?_alloc_past _ _ _ (by simp), World.frozen?_alloc_at _ _ _ _ (by simp)]
  have HBW := hid bW
  clear h hf bW
  go_enter Tryd.func6, Tryd.ntmps6
  go_wp2_with fail
  try rw [hW]
  clear hW
  refine (HT.out W HBW.out).mono ?_
  rintro e w4 ⟨rfl, s4, b4, z4, xs4, o4⟩
  have hz := HZ.out
  have bc := fun (b i : Nat) (hb : b < W.heap.size) => b4.cell (p := ⟨b, i, none⟩) hb
  have bf := fun (b i : Nat) (hb : b < W.heap.size) => b4.frozen (p := ⟨b, i, none⟩) hb
  have r1 := (bc w.heap.size 1 (by omega)).trans x1
  have r2 := (bc w.heap.size 2 (by omega)).trans x2
  have u0 := (bc (w.heap.size + 2) 0 (by omega)).trans s0
  have u1 := (bc (w.heap.size + 2) 1 (by omega)).trans s1
  have u2 := (bc (w.heap.size + 2) 2 (by omega)).trans s2
  have v0 := (bc (w.heap.size + 1) 0 (by omega)).trans t0
  have v1 := (bc (w.heap.size + 1) 1 (by omega)).trans t1
  have v2 := (bc (w.heap.size + 1) 2 (by omega)).trans t2
  have fu0 := (bf (w.heap.size + 2) 0 (by omega)).trans (fs 0)
  have fu1 := (bf (w.heap.size + 2) 1 (by omega)).trans (fs 1)
  have fu2 := (bf (w.heap.size + 2) 2 (by omega)).trans (fs 2)
  have fv0 := (bf (w.heap.size + 1) 0 (by omega)).trans (ft 0)
  have fv1 := (bf (w.heap.size + 1) 1 (by omega)).trans (ft 1)
  have fv2 := (bf (w.heap.size + 1) 2 (by omega)).trans (ft 2)
  have HS4 := hid s4
  have HO4 := hid o4
  have HB4 := hid b4
  clear s4 o4 b4 bc bf s0 s1 s2 t0 t1 t2 fs ft hz x0 x1 x2
  go_wp2_with fail
  obtain ⟨Z, hZ, q0, q1, q2, qs, qf, qb⟩ := boxD (w4 := w4) (B := w.heap.size) (.slice (some ⟨W.heap.size, 0, none⟩) n n) (.int .i64 T) (.int .i64 F) v0 v1 v2
  show bodyPost _ _ _ _ _ ((((((w4.setCell ⟨w.heap.size + 2, 0, none⟩ (.slice (some ⟨W.heap.size, 0, none⟩) n n)).setCell ⟨w.heap.size + 2, 1, none⟩ (.int .i64 T)).setCell ⟨w.heap.size + 2, 2, none⟩ (.int .i64 F)).setCell ⟨w.heap.size + 1, 0, none⟩ (.slice (some ⟨W.heap.size, 0, none⟩) n n)).setCell ⟨w.heap.size + 1, 1, none⟩ (.int .i64 T)).setCell ⟨w.heap.size + 1, 2, none⟩ (.int .i64 F))
  rw [← hZ]
  clear hZ
  have hz := HZ.out
  have bZ : ∀ b, W.heap.size ≤ b → Z.heap[b]? = w4.heap[b]? := fun b hb => qb b (by omega) (by omega)
  refine bodyPost_ret (v := .agg #[.slice (some ⟨W.heap.size, 0, none⟩) n n, .int .i64 T, .int .i64 F]) (by simp [results, Tryd.results6, go_sem, q0, q1, q2]) rfl ⟨W.heap.size, xs4, rfl, by omega, by omega, ?_, ?_, ?_⟩
  · rcases HS4.out with h | ⟨b, off, e, hb, hc⟩
    · exact .inl h
    · injection e with e; injection e with e1 e2 _
      subst e1 e2
      exact .inr ⟨_, _, rfl, by omega, fun i hi => (World.cell?_of_block (bZ _ (Nat.le_refl _))).trans (hc i hi)⟩
  · obtain ⟨p1, p2⟩ := HO4.out
    refine ⟨p1, p2.imp id ?_⟩
    rintro ⟨g, cap, cur, e, hg, hh, r⟩
    exact ⟨g, cap, cur, e, by omega, (bZ g hg).trans hh, r⟩
  · have b5 := HBW.out.trans (HB4.out.mono (by omega))
    exact ⟨qf.1.trans b5.os, qf.2.1.trans b5.tape, qf.2.2.trans b5.output, by rw [qs]; exact b5.size, fun b hb => (qb b (by omega) (by omega)).trans (b5.block b hb)⟩
end Go.Proofs.YthoilicolakofaaDoor
