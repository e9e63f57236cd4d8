import Derived.Test.YtbimcammjohaoacFi
import Derived.Deep.Slices
import Derived.Deep.SlicePairs
import Derived.Deep.Strs
import Derived.Lib.SmallJoins
namespace Go.Proofs.Ytbimcammjohaoac
open Go.ChangeShapes Go.WideShapes Go.ChangeAt Go.RowKit Go.Deep
set_option linter.unusedVariables false
set_option linter.unusedSimpArgs false

set_option maxRecDepth 100000 in
theorem openFrame {H : Type} {enc : TypeId × Value → H} {W : World} {r : Reach} {b0 base : Nat} {held : Bool} {v : Value} {d : DataW H} {p : List MemPlace}
    (hval : Value.okWide Try.prog W r b0 24 v) (h : DataW.Trod enc Try.prog W base (fun _ => true) held 24 v d p) :
    ∃ k a n c f, v = .agg #[.int .i64 k, .slice a n c] ∧ (Lit.int .i64 k).wf = true ∧ n ≤ 9223372036854775807 ∧ Seg W a n f ∧ Byt f := by
  obtain ⟨c0, c1, y0, y1, m, rfl, rfl, rfl, g0, g1⟩ := Go.Joins.open_agg2 Try.underlying24 (by kernel_rfl) (show Try.prog.cellsOf 24 = 2 by kernel_rfl) hval h
  obtain ⟨z0, q0, _, wf0⟩ := DataW.trod_int Try.underlying3 g0
  simp at q0
  subst q0
  rcases open_ints Try.underlying22 Try.underlying5 (by kernel_rfl) g1 with ⟨hcs, _⟩ | ⟨x, l, c, zs, hcs, _, hl, hm, hz, _, hcell, hwz⟩
  · simp at hcs
    subst hcs
    exact ⟨z0, none, 0, 0, fun _ => 0, rfl, wf0, by omega, .inl rfl, fun _ => ⟨by simp, by simp⟩⟩
  · simp at hcs
    subst hcs
    obtain ⟨s, hb, hl'⟩ := seg_of (w := W) (a0 := some x) (len0 := l) (cap0 := c) (z0 := zs) (.inr ⟨x, rfl, hl, hm, by first | exact hz | simpa using hz | omega, hcell, hwz⟩)
    exact ⟨z0, some x, l, c, _, rfl, wf0, hl', s, hb⟩

def szL (n : Nat) : Int := if n ≤ 1048576 then 1048576 - (n : Int) else -1
theorem szByteC (a : Option Addr) (n c : Nat) (w : World) (hn : n ≤ 9223372036854775807) :
    Calls Try.prog 28 #[.slice a n c, .int .i64 1048576] w fun e w' => e = .returned (.int .i64 (szL n)) ∧ w' = w := by
  have e1 : IntKind.i64.wrap (1048576 - (n : Int)) = 1048576 - (n : Int) := by rw [IntKind.wrap_i64]; omega
  by_cases h : n ≤ 1048576
  · have HZ : Hid (szL n = 1048576 - (n : Int)) := hid (if_pos h)
    have d0 : decide (1048576 - (n : Int) < 0) = false := by simp; omega
    rw [HZ.out]
    go_enter Try.func28, Try.ntmps28
    go_wp2_with fail
    go_ret
    exact ⟨rfl, rfl⟩
  · have HZ : Hid (szL n = -1) := hid (if_neg h)
    have d0 : decide (1048576 - (n : Int) < 0) = true := by simp; omega
    rw [HZ.out]
    go_enter Try.func28, Try.ntmps28
    go_wp2_with fail
    go_ret
    exact ⟨rfl, rfl⟩

theorem szFrameC (k : Int) (a : Option Addr) (n c : Nat) (w : World) (hn : n ≤ 9223372036854775807) :
    Calls Try.prog 7 #[.agg #[.int .i64 k, .slice a n c], .int .i64 1048576] w fun e w' => e = .returned (.int .i64 (szL n)) ∧ Below w.heap.size w w' := by
  have HS := hid (fun w' => szByteC a n c w' hn)
  have HB0 : Hid (Below w.heap.size w (w.alloc (.cells #[.int .i64 k, .slice a n c] 24))) := (Below.refl _ _).alloc (Nat.le_refl _) _
  by_cases h : n ≤ 1048576
  · have HZ : Hid (szL n = 1048576 - (n : Int)) := hid (if_pos h)
    rw [HZ.out] at HS ⊢
    have d0 : decide (1048576 - (n : Int) < 0) = false := by simp; omega
    go_enter Try.func7, Try.ntmps7
    go_wp2_with fail
    refine (HS.out _).mono ?_
    rintro e w' ⟨rfl, rfl⟩
    go_wp2_with fail
    go_ret
    exact ⟨rfl, HB0.out⟩
  · have HZ : Hid (szL n = -1) := hid (if_neg h)
    rw [HZ.out] at HS ⊢
    go_enter Try.func7, Try.ntmps7
    go_wp2_with fail
    refine (HS.out _).mono ?_
    rintro e w' ⟨rfl, rfl⟩
    go_wp2_with fail
    go_ret
    exact ⟨rfl, HB0.out⟩

theorem boxF {w4 : World} {B k0 : Nat} {k : Int} {u0 u1 : Value} (sl : Value) (r0 : w4.cell? ⟨B + 1, 0, none⟩ = some u0) (r1 : w4.cell? ⟨B + 1, 1, none⟩ = some u1) (o1 : w4.cell? ⟨B + 2, 1, none⟩ = some (.slice none 0 0)) :
    ∃ Z, Z = ((w4.setCell ⟨B + 2, 1, none⟩ sl).setCell ⟨B + 1, 0, none⟩ (.int .i64 k)).setCell ⟨B + 1, 1, none⟩ sl ∧ Z.cell? ⟨B + 1, 0, none⟩ = some (.int .i64 k) ∧ Z.cell? ⟨B + 1, 1, none⟩ = some sl ∧ Z.heap.size = w4.heap.size ∧ (Z.os = w4.os ∧ Z.tape = w4.tape ∧ Z.output = w4.output) ∧ ∀ b, b ≠ B + 1 → b ≠ B + 2 → Z.heap[b]? = w4.heap[b]? := by
  refine ⟨_, rfl, ?_, ?_, ?_, ⟨rfl, rfl, rfl⟩, fun b h1 h2 => ?_⟩
  · have a0 : (w4.setCell ⟨B + 2, 1, none⟩ sl).cell? ⟨B + 1, 0, none⟩ = some u0 := (World.cell?_setCell_far _ _ _ _ (by simp)).trans r0
    exact (World.cell?_setCell_other _ _ _ _ (by simp)).trans (World.cell?_setCell_same _ _ _ a0)
  · have a1 : ((w4.setCell ⟨B + 2, 1, none⟩ sl).setCell ⟨B + 1, 0, none⟩ (.int .i64 k)).cell? ⟨B + 1, 1, none⟩ = some u1 := (World.cell?_setCell_other _ _ _ _ (by simp)).trans ((World.cell?_setCell_far _ _ _ _ (by simp)).trans r1)
    exact World.cell?_setCell_same _ _ _ a1
  · simp [World.setCell]
  · exact (Below.heap_setCell _ _ _ _ h1).trans ((Below.heap_setCell _ _ _ _ h1).trans (Below.heap_setCell _ _ _ _ h2))

set_option maxRecDepth 100000 in
set_option maxHeartbeats 1000000 in
theorem toFrameC (k : Int) (a : Option Addr) (n c : Nat) (f : Nat → Int) (w : World) (hn : n ≤ 1048576) (hf : Byt f) (h : Seg w a n f) :
    Calls Try.prog 9 #[.agg #[.int .i64 k, .slice a n c]] w fun e w' => ∃ g xs, e = .returned (.agg #[.int .i64 k, .slice (some ⟨g, 0, none⟩) n n]) ∧ w.heap.size ≤ g ∧ g < w'.heap.size ∧ Seg w' (some ⟨g, 0, none⟩) n f ∧ w'.ownsRow w.heap.size 5 1 (.slice (some ⟨g, 0, none⟩) n n) n xs ∧ Below w.heap.size w w' := by
  have HT : Hid (∀ w', Below w.heap.size w w' → Calls Try.prog 31 #[.slice a n c] w' fun e w2 => e = .returned (.slice (some ⟨w'.heap.size, 0, none⟩) n n) ∧ Seg w2 (some ⟨w'.heap.size, 0, none⟩) n f ∧ Below w'.heap.size w' w2 ∧ w'.heap.size < w2.heap.size ∧ ∃ xs, w2.ownsRow w'.heap.size 5 1 (.slice (some ⟨w'.heap.size, 0, none⟩) n n) n xs) := fun w' hb => toByteO a n c f w' hn hf (h.below hb)
  obtain ⟨W, hW⟩ : ∃ W, ((w.alloc (.cells #[.int .i64 k, .slice a n c] 24)).alloc (.cells #[.int .i64 0, .slice none 0 0] 28)).alloc (.cells #[.int .i64 k, .slice none 0 0] 28) = W := ⟨_, rfl⟩
  have bW : Below w.heap.size w W := by rw [← hW]; exact (bel2 _ _ _).alloc (by simp; omega) _
  have HZ : Hid (W.heap.size = w.heap.size + 3) := by rw [← hW]; exact hid (by simp)
  have s0 : W.cell? ⟨w.heap.size + 2, 0, none⟩ = some (.int .i64 k) := by rw [← hW, World.cell?_alloc_at _ _ _ _ (by simp)]; rfl
  have s1 : W.cell? ⟨w.heap.size + 2, 1, none⟩ = some (.slice none 0 0) := by rw [← hW, World.cell?_alloc_at _ _ _ _ (by simp)]; rfl
  have t0 : W.cell? ⟨w.heap.size + 1, 0, none⟩ = some (.int .i64 0) := by rw [← hW, World.cell?_alloc_past _ _ _ (by simp), World.cell?_alloc_at _ _ _ _ (by simp)]; rfl
  have t1 : W.cell? ⟨w.heap.size + 1, 1, none⟩ = some (.slice none 0 0) := by rw [← hW, World.cell?_alloc_past _ _ _ (by simp), World.cell?_alloc_at _ _ _ _ (by simp)]; rfl
  have x1 : W.cell? ⟨w.heap.size, 1, none⟩ = some (.slice a n c) := by rw [← hW, World.cell?_alloc_past _ _ _ (by simp; omega), World.cell?_alloc_past _ _ _ (by simp), World.cell?_alloc_at _ _ _ _ rfl]; rfl
  have fs : ∀ i, W.frozen? ⟨w.heap.size + 2, i, none⟩ = false := fun i => by rw [← hW, World.frozen?_alloc_at _ _ _ _ (by simp)]
  have ft : ∀ i, W.frozen? ⟨w.heap.size + 1, i, none⟩ = false := fun i => by rw [← hW, World.frozen?_alloc_past _ _ _ (by simp), World.frozen?_alloc_at _ _ _ _ (by simp)]
  have HBW := hid bW
  clear h hf bW
  go_enter Try.func9, Try.ntmps9
  go_wp2_with fail
  try rw [hW]
  clear hW
  refine (HT.out W HBW.out).mono ?_
  rintro e w4 ⟨rfl, s4, b4, z4, xs4, o4⟩
  have hz := HZ.out
  have bc := fun (b i : Nat) (hb : b < W.heap.size) => b4.cell (p := ⟨b, i, none⟩) hb
  have bf := fun (b i : Nat) (hb : b < W.heap.size) => b4.frozen (p := ⟨b, i, none⟩) hb
  have u0 := (bc (w.heap.size + 2) 0 (by omega)).trans s0
  have u1 := (bc (w.heap.size + 2) 1 (by omega)).trans s1
  have v0 := (bc (w.heap.size + 1) 0 (by omega)).trans t0
  have v1 := (bc (w.heap.size + 1) 1 (by omega)).trans t1
  have fu1 := (bf (w.heap.size + 2) 1 (by omega)).trans (fs 1)
  have fv0 := (bf (w.heap.size + 1) 0 (by omega)).trans (ft 0)
  have fv1 := (bf (w.heap.size + 1) 1 (by omega)).trans (ft 1)
  have HS4 := hid s4
  have HO4 := hid o4
  have HB4 := hid b4
  clear s4 o4 b4 bc bf s0 s1 t0 t1 fs ft hz
  go_wp2_with fail
  obtain ⟨Z, hZ, q0, q1, qs, qf, qb⟩ := boxF (w4 := w4) (B := w.heap.size) (k0 := 0) (k := k) (.slice (some ⟨W.heap.size, 0, none⟩) n n) v0 v1 u1
  show bodyPost _ _ _ _ _ (((w4.setCell ⟨w.heap.size + 2, 1, none⟩ (.slice (some ⟨W.heap.size, 0, none⟩) n n)).setCell ⟨w.heap.size + 1, 0, none⟩ (.int .i64 k)).setCell ⟨w.heap.size + 1, 1, none⟩ (.slice (some ⟨W.heap.size, 0, none⟩) n n))
  rw [← hZ]
  clear hZ
  have hz := HZ.out
  have bZ : ∀ b, W.heap.size ≤ b → Z.heap[b]? = w4.heap[b]? := fun b hb => qb b (by omega) (by omega)
  refine bodyPost_ret (v := .agg #[.int .i64 k, .slice (some ⟨W.heap.size, 0, none⟩) n n]) (by simp [results, Try.results9, go_sem, q0, q1]) rfl ⟨W.heap.size, xs4, rfl, by omega, by omega, ?_, ?_, ?_⟩
  · rcases HS4.out with h | ⟨b, off, e, hb, hc⟩
    · exact .inl h
    · injection e with e; injection e with e1 e2 _
      subst e1 e2
      exact .inr ⟨_, _, rfl, by omega, fun i hi => (World.cell?_of_block (bZ _ (Nat.le_refl _))).trans (hc i hi)⟩
  · obtain ⟨p1, p2⟩ := HO4.out
    refine ⟨p1, p2.imp id ?_⟩
    rintro ⟨g, cap, cur, e, hg, hh, r⟩
    exact ⟨g, cap, cur, e, by omega, (bZ g hg).trans hh, r⟩
  · have b5 := HBW.out.trans (HB4.out.mono (by omega))
    refine ⟨qf.1.trans b5.os, qf.2.1.trans b5.tape, qf.2.2.trans b5.output, by rw [qs]; exact b5.size, fun b hb => (qb b (by omega) (by omega)).trans (b5.block b hb)⟩

set_option maxRecDepth 100000 in
theorem eqFrameC (k : Int) (a a' : Option Addr) (n c c' : Nat) (f : Nat → Int) (w : World) (hn : n ≤ 1048576) (h : Seg w a n f) (h' : Seg w a' n f) :
    Calls Try.prog 12 #[.agg #[.int .i64 k, .slice a n c], .agg #[.int .i64 k, .slice a' n c']] w fun e w' => e = .returned (.bool true) ∧ Below w.heap.size w w' := by
  have HB0 : Hid (Below w.heap.size w ((w.alloc (.cells #[.int .i64 k, .slice a n c] 28)).alloc (.cells #[.int .i64 k, .slice a' n c'] 28))) := bel2 _ _ _
  have HE := hid (eqB2 a a' n c c' f _ (by omega) (h.below HB0.out) (h'.below HB0.out))
  clear h h'
  go_enter Try.func12, Try.ntmps12
  go_wp2_with fail
  refine HE.out.mono ?_
  rintro e w1 ⟨rfl, b1⟩
  have HB1 := hid (keepS HB0.out b1)
  clear b1 HE
  go_wp2_with fail
  go_ret
  exact ⟨rfl, HB1.out⟩

set_option maxRecDepth 100000 in
theorem markFrameC (B g n : Nat) (k : Int) (xs : List Value) (w : World) (hn : n ≤ 1048576) (hB : B ≤ w.heap.size) (ho : w.ownsRow B 5 1 (.slice (some ⟨g, 0, none⟩) n n) n xs) :
    Calls Try.prog 13 #[.agg #[.int .i64 k, .slice (some ⟨g, 0, none⟩) n n], .int .i64 1] w fun e w' => e = .returned (.int .i64 ((1 + n : Nat) : Int)) ∧ w.grownBy w' (some g) := by
  have HB0 : Hid (Below w.heap.size w (w.alloc (.cells #[.int .i64 k, .slice (some ⟨g, 0, none⟩) n n] 28))) := (Below.refl _ _).alloc (Nat.le_refl _) _
  have HGZ := hid (ho.lt g rfl).2
  have HM := hid (markB B g n n 1 xs _ (by omega) (by omega) (ho.alloc (.cells #[.int .i64 k, .slice (some ⟨g, 0, none⟩) n n] 28)))
  clear ho
  go_enter Try.func13, Try.ntmps13
  go_wp2_with fail
  refine HM.out.mono ?_
  rintro e w1 ⟨rfl, b1, z1, _, o1⟩
  have hgz : g < w.heap.size := HGZ.out
  have HG : Hid (w.grownBy w1 (some g)) := hid ⟨b1.os.trans HB0.out.os, b1.tape.trans HB0.out.tape, b1.output.trans HB0.out.output, by have := HB0.out.size; omega, fun b hb hne => (o1 b (fun e => hne (by rw [e]))).trans (HB0.out.block b hb)⟩
  clear b1 z1 o1
  go_wp2_with fail
  go_ret
  exact ⟨rfl, HG.out⟩
end Go.Proofs.Ytbimcammjohaoac
