import Derived.Test.YtkhicohhahaahaaRun
namespace Go.Proofs.Ytkhicohhahaahaa
open Go.ChangeShapes Go.WideShapes Go.ChangeAt Go.RowKit
set_option linter.unusedVariables false
set_option linter.unusedSimpArgs false

def mk3 (k0 c : Nat) (i : Nat) : Int := ((k0 + 3 * i + c : Nat) : Int)

set_option maxRecDepth 100000 in
set_option maxHeartbeats 400000 in
theorem markRunS (B g n cap : Nat) (k0 : Nat) (ys : List Value) (w : World) (hk0 : k0 ≤ 4000000000000) (hn1 : n ≤ 1000000000) (ho : w.ownsRow B 101 3 (.slice (some ⟨g, 0, none⟩) n cap) n ys) :
    Calls Try.prog 49 #[.slice (some ⟨g, 0, none⟩) n cap, .int .i64 (k0 : Int)] w fun e w' => e = .returned (.int .i64 ((k0 + 3 * n : Nat) : Int)) ∧ Below B w w' ∧ w'.heap.size = w.heap.size ∧ RSeg w' (some ⟨g, 0, none⟩) n (mk3 k0 0) (mk3 k0 1) (mk3 k0 2) ∧ (∀ b, b ≠ g → w'.heap[b]? = w.heap[b]?) := by
  go_enter Try.func49, Try.ntmps49
  go_wp2_with fail
  go_loopw [1, 5] (fun k i wr => ∃ (j m : Nat), j ≤ n ∧ m = k0 + 3 * j ∧ i = .int .i64 (j : Int) ∧ k = .int .i64 (m : Int) ∧ Hid (Below B w wr) ∧ Hid (wr.heap.size = w.heap.size) ∧ Hid (∀ b, b ≠ g → wr.heap[b]? = w.heap[b]?) ∧ ∃ xs : List Value, Hid (wr.ownsRow B 101 3 (.slice (some ⟨g, 0, none⟩) n cap) n xs) ∧ Hid (∀ t, t < j → xs[t * 3]? = some (.int .i64 (mk3 k0 0 t)) ∧ xs[t * 3 + 1]? = some (.int .i64 (mk3 k0 1 t)) ∧ xs[t * 3 + 2]? = some (.int .i64 (mk3 k0 2 t)))) (fun _ i _ => n - (intOf i).toNat)
  case atStart => exact ⟨0, k0, Nat.zero_le _, rfl, rfl, rfl, hid (Below.refl _ _), hid rfl, hid (fun _ _ => rfl), _, hid ho, hid (fun t ht => by omega)⟩
  case round =>
    clear ho
    obtain ⟨j, m, hj, hm, rfl, rfl, hbel, hsz, hoth, xs, hown, hxs⟩ := hrel
    by_cases hlt : j < n
    · have f0 := hown.out.frozenAt (j * 3)
      have f1 := hown.out.frozenAt (j * 3 + 1)
      have f2 := hown.out.frozenAt (j * 3 + 2)
      obtain ⟨u0, hu0⟩ := owns_cell hown.out (j * 3) (by omega)
      obtain ⟨u1, hu1⟩ := owns_cell hown.out (j * 3 + 1) (by omega)
      obtain ⟨u2, hu2⟩ := owns_cell hown.out (j * 3 + 2) (by omega)
      have hlen := hown.out.1
      have HR := hid (((hown.out.stored (j * 3) (.int .i64 (m : Int))).1.stored (j * 3 + 1) (.int .i64 ((m : Int) + 1))).1.stored (j * 3 + 2) (.int .i64 ((m : Int) + 1 + 1))).1
      have HX : Hid (∀ t, t < j + 1 → (((xs.set (j * 3) (.int .i64 (m : Int))).set (j * 3 + 1) (.int .i64 ((m : Int) + 1))).set (j * 3 + 2) (.int .i64 ((m : Int) + 1 + 1)))[t * 3]? = some (.int .i64 (mk3 k0 0 t)) ∧ (((xs.set (j * 3) (.int .i64 (m : Int))).set (j * 3 + 1) (.int .i64 ((m : Int) + 1))).set (j * 3 + 2) (.int .i64 ((m : Int) + 1 + 1)))[t * 3 + 1]? = some (.int .i64 (mk3 k0 1 t)) ∧ (((xs.set (j * 3) (.int .i64 (m : Int))).set (j * 3 + 1) (.int .i64 ((m : Int) + 1))).set (j * 3 + 2) (.int .i64 ((m : Int) + 1 + 1)))[t * 3 + 2]? = some (.int .i64 (mk3 k0 2 t))) := by
        intro t ht
        by_cases htj : t = j
        · subst htj
          refine ⟨?_, ?_, ?_⟩
          · rw [List.getElem?_set_ne (by omega), List.getElem?_set_ne (by omega), List.getElem?_set_self (by omega)]; unfold mk3; congr 2; omega
          · rw [List.getElem?_set_ne (by omega), List.getElem?_set_self (by simp; omega)]; unfold mk3; congr 2; omega
          · rw [List.getElem?_set_self (by simp; omega)]; unfold mk3; congr 2; omega
        · obtain ⟨x0, x1, x2⟩ := hxs.out t (by omega)
          refine ⟨?_, ?_, ?_⟩
          · rw [List.getElem?_set_ne (by omega), List.getElem?_set_ne (by omega), List.getElem?_set_ne (by omega)]; exact x0
          · rw [List.getElem?_set_ne (by omega), List.getElem?_set_ne (by omega), List.getElem?_set_ne (by omega)]; exact x1
          · rw [List.getElem?_set_ne (by omega), List.getElem?_set_ne (by omega), List.getElem?_set_ne (by omega)]; exact x2
      have hg0 := (hown.out.lt g rfl).1
      have HB := hid (((hbel.out.setCell (p := ⟨g, j * 3, none⟩) hg0 (.int .i64 (m : Int))).setCell (p := ⟨g, j * 3 + 1, none⟩) hg0 (.int .i64 ((m : Int) + 1))).setCell (p := ⟨g, j * 3 + 2, none⟩) hg0 (.int .i64 ((m : Int) + 1 + 1)))
      have HZ : Hid ((((wr.setCell ⟨g, j * 3, none⟩ (.int .i64 (m : Int))).setCell ⟨g, j * 3 + 1, none⟩ (.int .i64 ((m : Int) + 1))).setCell ⟨g, j * 3 + 2, none⟩ (.int .i64 ((m : Int) + 1 + 1))).heap.size = w.heap.size) := by show _ = _; rw [← hsz.out]; simp [World.setCell]
      have HO : Hid (∀ b, b ≠ g → (((wr.setCell ⟨g, j * 3, none⟩ (.int .i64 (m : Int))).setCell ⟨g, j * 3 + 1, none⟩ (.int .i64 ((m : Int) + 1))).setCell ⟨g, j * 3 + 2, none⟩ (.int .i64 ((m : Int) + 1 + 1))).heap[b]? = w.heap[b]?) := fun b hb => (Below.heap_setCell _ _ _ _ hb).trans ((Below.heap_setCell _ _ _ _ hb).trans ((Below.heap_setCell _ _ _ _ hb).trans (hoth.out b hb)))
      clear hlen hg0
      have hmb : m ≤ 4000000000000 + 3000000000 := by omega
      have HM := hid hm
      clear hm
      go_wp2_with fail
      go_roundw
      case rel => exact ⟨j + 1, m + 3, hlt, by have := HM.out; omega, by go_num, by go_num, HB, HZ, HO, _, HR, HX⟩
      case measure => simp [intOf]; omega
    · obtain rfl : j = n := by omega
      have hsg : RSeg wr (some ⟨g, 0, none⟩) j (mk3 k0 0) (mk3 k0 1) (mk3 k0 2) := .inr ⟨g, 0, rfl, (hown.out.lt g rfl).2, fun i hi => by
        obtain ⟨x0, x1, x2⟩ := hxs.out i hi
        rw [Nat.zero_add, hown.out.cellAt _ (by omega), hown.out.cellAt _ (by omega), hown.out.cellAt _ (by omega)]
        exact ⟨x0, x1, x2⟩⟩
      have HR := hid hsg
      clear hsg
      subst hm
      go_wp2_with fail
      go_ret
      exact ⟨by simp, hbel.out, hsz.out, HR.out, hoth.out⟩

set_option maxRecDepth 100000 in
set_option maxHeartbeats 400000 in
theorem markContext (B g n cap : Nat) (k0 : Nat) (ys : List Value) (w : World) (hB : B ≤ w.heap.size) (hk0 : k0 ≤ 4000000000000) (hn1 : n ≤ 1000000000) (ho : w.ownsRow B 101 3 (.slice (some ⟨g, 0, none⟩) n cap) n ys) :
    Calls Try.prog 31 #[.agg #[.slice (some ⟨g, 0, none⟩) n cap], .int .i64 (k0 : Int)] w fun e w' => e = .returned (.int .i64 ((k0 + 3 * n : Nat) : Int)) ∧ Below B w w' ∧ RSeg w' (some ⟨g, 0, none⟩) n (mk3 k0 0) (mk3 k0 1) (mk3 k0 2) ∧ w.heap.size ≤ w'.heap.size ∧ (∀ b, b < w.heap.size → b ≠ g → w'.heap[b]? = w.heap[b]?) := by
  have HB0 : Hid (Below w.heap.size w (w.alloc (.cells #[.slice (some ⟨g, 0, none⟩) n cap] 36))) := (Below.refl _ _).alloc (Nat.le_refl _) _
  go_enter Try.func31, Try.ntmps31
  go_wp2_with fail
  refine (markRunS B g n cap k0 ys _ hk0 hn1 (ho.alloc _)).mono ?_
  rintro e w1 ⟨rfl, b1, z1, s1, o1⟩
  have hbx : w1.cell? ⟨w.heap.size, 0, none⟩ = some (.slice (some ⟨g, 0, none⟩) n cap) := by
    have hgl := (ho.lt g rfl).2
    rw [World.cell?_of_block (o1 w.heap.size (by omega))]; simp
  have HB1 := hid b1
  have HZ1 := hid z1
  have HS1 := hid s1
  have HO1 := hid o1
  clear b1 z1 s1 o1
  go_wp2_with fail
  go_ret
  refine ⟨by simp, ?_, HS1.out, ?_, fun b hb hg => (HO1.out b hg).trans (HB0.out.block b hb)⟩
  · exact (HB0.out.mono hB).trans HB1.out
  · have := HZ1.out; simp at this; omega
end Go.Proofs.Ytkhicohhahaahaa
