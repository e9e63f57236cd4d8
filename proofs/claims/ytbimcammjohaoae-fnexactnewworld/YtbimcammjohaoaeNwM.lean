import Derived.Test.YtbimcammjohaoaeNwR
namespace Go.Proofs.Ytbimcammjohaoae.fnExactNewWorld
open Go.ChangeShapes Go.WideShapes Go.ChangeAt Go.RowKit
set_option linter.unusedVariables false
set_option linter.unusedSimpArgs false

def mkR (k0 j : Nat) (f : Nat → Int) (i : Nat) : Int := if i < j then ((k0 + i : Nat) : Int) else f i
def mkP (k0 j : Nat) (f : Nat → Nat → Int) (i c : Nat) : Int := if i < j then ((k0 + 4 * i + c : Nat) : Int) else f i c
theorem RepX.set {n j k0 : Nat} {f : Nat → Int} {xs : List Value} (h : RepX n (mkR k0 j f) xs) (hj : j < n) (hl : xs.length = n * 5) : RepX n (mkR k0 (j + 1) f) (xs.set (j * 5) (.int .i64 ((k0 + j : Nat) : Int))) := by
  intro i hi
  obtain ⟨a1, a2, a3, a4, p1, p2, p3, p4, e0, e1, e2, e3, e4⟩ := h i hi
  refine ⟨a1, a2, a3, a4, p1, p2, p3, p4, ?_, ?_, ?_, ?_, ?_⟩
  · by_cases hij : i = j
    · subst hij
      rw [List.getElem?_set_self (by omega)]; simp [mkR]
    · rw [List.getElem?_set_ne (by omega), e0]
      have : mkR k0 (j + 1) f i = mkR k0 j f i := by unfold mkR; by_cases h1 : i < j <;> simp [h1] <;> omega
      rw [this]
  · rw [List.getElem?_set_ne (by omega), e1]
  · rw [List.getElem?_set_ne (by omega), e2]
  · rw [List.getElem?_set_ne (by omega), e3]
  · rw [List.getElem?_set_ne (by omega), e4]
theorem RepX.congr {n : Nat} {f g : Nat → Int} {xs : List Value} (h : RepX n f xs) (e : ∀ i, i < n → f i = g i) : RepX n g xs := fun i hi => by
  have := h i hi; rw [e i hi] at this; exact this
theorem PipX.congr {n : Nat} {f g : Nat → Nat → Int} {xs : List Value} (h : PipX n f xs) (e : ∀ i, i < n → f i = g i) : PipX n g xs := fun i hi => by
  have := h i hi; rw [e i hi] at this; exact this
theorem PipX.set {n j k0 : Nat} {f : Nat → Nat → Int} {xs : List Value} (h : PipX n (mkP k0 j f) xs) (hj : j < n) (hl : xs.length = n * 6) :
    PipX n (mkP k0 (j + 1) f) ((((xs.set (j * 6) (.int .i64 ((k0 + 4 * j : Nat) : Int))).set (j * 6 + 1) (.int .i64 ((k0 + 4 * j + 1 : Nat) : Int))).set (j * 6 + 4) (.int .i64 ((k0 + 4 * j + 2 : Nat) : Int))).set (j * 6 + 5) (.int .i64 ((k0 + 4 * j + 3 : Nat) : Int))) := by
  intro i hi
  obtain ⟨a1, a2, p1, p2, e0, e1, e2, e3, e4, e5⟩ := h i hi
  by_cases hij : i = j
  · subst hij
    refine ⟨a1, a2, p1, p2, ?_, ?_, ?_, ?_, ?_, ?_⟩
    · rw [List.getElem?_set_ne (by omega), List.getElem?_set_ne (by omega), List.getElem?_set_ne (by omega), List.getElem?_set_self (by omega)]; simp [mkP]
    · rw [List.getElem?_set_ne (by omega), List.getElem?_set_ne (by omega), List.getElem?_set_self (by simp; omega)]; simp [mkP]
    · rw [List.getElem?_set_ne (by omega), List.getElem?_set_ne (by omega), List.getElem?_set_ne (by omega), List.getElem?_set_ne (by omega), e2]
    · rw [List.getElem?_set_ne (by omega), List.getElem?_set_ne (by omega), List.getElem?_set_ne (by omega), List.getElem?_set_ne (by omega), e3]
    · rw [List.getElem?_set_ne (by omega), List.getElem?_set_self (by simp; omega)]; simp [mkP]
    · rw [List.getElem?_set_self (by simp; omega)]; simp [mkP]
  · have e : mkP k0 (j + 1) f i = mkP k0 j f i := by funext c; unfold mkP; by_cases h1 : i < j <;> simp [h1] <;> omega
    rw [e]
    refine ⟨a1, a2, p1, p2, ?_, ?_, ?_, ?_, ?_, ?_⟩
    · rw [List.getElem?_set_ne (by omega), List.getElem?_set_ne (by omega), List.getElem?_set_ne (by omega), List.getElem?_set_ne (by omega), e0]
    · rw [List.getElem?_set_ne (by omega), List.getElem?_set_ne (by omega), List.getElem?_set_ne (by omega), List.getElem?_set_ne (by omega), e1]
    · rw [List.getElem?_set_ne (by omega), List.getElem?_set_ne (by omega), List.getElem?_set_ne (by omega), List.getElem?_set_ne (by omega), e2]
    · rw [List.getElem?_set_ne (by omega), List.getElem?_set_ne (by omega), List.getElem?_set_ne (by omega), List.getElem?_set_ne (by omega), e3]
    · rw [List.getElem?_set_ne (by omega), List.getElem?_set_ne (by omega), List.getElem?_set_ne (by omega), List.getElem?_set_ne (by omega), e4]
    · rw [List.getElem?_set_ne (by omega), List.getElem?_set_ne (by omega), List.getElem?_set_ne (by omega), List.getElem?_set_ne (by omega), e5]

def But (w w' : World) (v : Value) : Prop := w'.heap.size = w.heap.size ∧ (∀ b, v.ownBlock ≠ some b → w'.heap[b]? = w.heap[b]?)

set_option maxRecDepth 100000 in
set_option maxHeartbeats 1000000 in
theorem markReps (B n k0 : Nat) (v : Value) (f : Nat → Int) (ys : List Value) (w : World) (hk0 : k0 ≤ 1000000) (hn1 : n ≤ 1000000) (ho : w.ownsRow B 60 5 v n ys) (hx : RepX n f ys) :
    Calls Try.prog 30 #[v, .int .i64 (k0 : Int)] w fun e w' => e = .returned (.int .i64 ((k0 + n : Nat) : Int)) ∧ Below B w w' ∧ But w w' v ∧ ∃ xs, w'.ownsRow B 60 5 v n xs ∧ RepX n (mkR k0 n f) xs := by
  rcases Nat.eq_zero_or_pos n with h0 | h0
  · subst h0
    obtain ⟨a, c, rfl, _⟩ := rd_of ho
    have HO := hid ho
    clear ho hx
    go_enter Try.func30, Try.ntmps30
    go_wp2_with fail
    refine wp_loop_rounds 1 ?_; rw [rounds_succ]; go_wp2_with fail
    go_ret
    exact ⟨by simp, Below.refl _ _, ⟨rfl, fun _ _ => rfl⟩, _, HO.out, fun i hi => by omega⟩
  obtain ⟨g, cap, rfl⟩ : ∃ g cap, v = .slice (some ⟨g, 0, none⟩) n cap := by
    rcases ho.2 with ⟨e, e0⟩ | ⟨g, cap, cur, e, _⟩
    · omega
    · exact ⟨g, cap, e⟩
  go_enter Try.func30, Try.ntmps30
  go_wp2_with fail
  go_loopw [1, 5] (fun k i wr => ∃ (j m : Nat), j ≤ n ∧ Hid (m = k0 + j) ∧ i = .int .i64 (j : Int) ∧ k = .int .i64 (m : Int) ∧ Hid (Below B w wr) ∧ Hid (wr.heap.size = w.heap.size) ∧ Hid (∀ b, b ≠ g → wr.heap[b]? = w.heap[b]?) ∧ ∃ xs : List Value, Hid (wr.ownsRow B 60 5 (.slice (some ⟨g, 0, none⟩) n cap) n xs) ∧ Hid (RepX n (mkR k0 j f) xs)) (fun _ i _ => n - (intOf i).toNat)
  case atStart => exact ⟨0, k0, Nat.zero_le _, hid rfl, rfl, rfl, hid (Below.refl _ _), hid rfl, hid (fun _ _ => rfl), _, hid ho, hid (hx.congr (fun i _ => by simp [mkR]))⟩
  case round =>
    clear ho hx
    obtain ⟨j, m, hj, hm, rfl, rfl, hbel, hsz, hoth, xs, hown, hxs⟩ := hrel
    by_cases hlt : j < n
    · have f0 := hown.out.frozenAt (j * 5)
      obtain ⟨a1, a2, a3, a4, p1, p2, p3, p4, e0, e1, e2, e3, e4⟩ := hxs.out j hlt
      obtain ⟨W, hW⟩ : ∃ W, wr.setCell ⟨g, j * 5, none⟩ (.int .i64 (m : Int)) = W := ⟨_, rfl⟩
      have hlen := hown.out.1
      have x0 := (hown.out.cellAt (j * 5) (by omega)).trans e0
      have hR := (hown.out.stored (j * 5) (.int .i64 (m : Int))).1
      rw [hW] at hR
      have HX := hid (hxs.out.set hlt hlen)
      have x1 : W.cell? ⟨g, j * 5 + 1, none⟩ = some (.slice a1 0 p1) := by rw [hR.cellAt _ (by omega), List.getElem?_set_ne (by omega), e1]
      have x2 : W.cell? ⟨g, j * 5 + 2, none⟩ = some (.slice a2 0 p2) := by rw [hR.cellAt _ (by omega), List.getElem?_set_ne (by omega), e2]
      have x3 : W.cell? ⟨g, j * 5 + 3, none⟩ = some (.slice a3 0 p3) := by rw [hR.cellAt _ (by omega), List.getElem?_set_ne (by omega), e3]
      have x4 : W.cell? ⟨g, j * 5 + 4, none⟩ = some (.slice a4 0 p4) := by rw [hR.cellAt _ (by omega), List.getElem?_set_ne (by omega), e4]
      have HR := hid hR
      have hg0 := (hown.out.lt g rfl).1
      have HB : Hid (Below B w W) := hid (by rw [← hW]; exact hbel.out.setCell (p := ⟨g, j * 5, none⟩) hg0 (.int .i64 (m : Int)))
      have HZ : Hid (W.heap.size = w.heap.size) := hid (by rw [← hW, ← hsz.out]; simp [World.setCell])
      have HO : Hid (∀ b, b ≠ g → W.heap[b]? = w.heap[b]?) := hid (fun b hb => by rw [← hW]; exact (Below.heap_setCell _ _ _ _ hb).trans (hoth.out b hb))
      rw [← hm.out] at HX
      have hmb : m ≤ 2000000 := by have := hm.out; omega
      clear hR hlen hg0 e0 e1 e2 e3 e4
      have i1 : (0 : Int) ≤ (j : Int) := Int.natCast_nonneg _
      have i2 : (j : Int) < (n : Int) := by omega
      go_wp2_with fail
      refine (markLeaf0 _ _ _ _).mono ?_
      rintro e w1 ⟨rfl, rfl⟩
      go_wp2_with fail
      refine (markRun0 _ _ _ _).mono ?_
      rintro e w1 ⟨rfl, rfl⟩
      go_wp2_with fail
      refine (markLeaf0 _ _ _ _).mono ?_
      rintro e w1 ⟨rfl, rfl⟩
      go_wp2_with fail
      refine (markRun0 _ _ _ _).mono ?_
      rintro e w1 ⟨rfl, rfl⟩
      go_wp2_with fail
      go_roundw
      case rel => exact ⟨j + 1, m + 1, hlt, hid (by have := hm.out; omega), by go_num, by go_num, HB, HZ, HO, _, HR, HX⟩
      case measure => simp [intOf]; omega
    · obtain rfl : j = n := by omega
      have e := hm.out
      clear hm
      subst e
      go_wp2_with fail
      go_ret
      exact ⟨by simp, hbel.out, ⟨hsz.out, fun b hb => hoth.out b (fun e => hb (by rw [e]; rfl))⟩, _, hown.out, hxs.out⟩

set_option maxRecDepth 100000 in
set_option maxHeartbeats 1000000 in
theorem markPips (B n k0 : Nat) (v : Value) (f : Nat → Nat → Int) (ys : List Value) (w : World) (hk0 : k0 ≤ 1000000) (hn1 : n ≤ 1000000) (ho : w.ownsRow B 68 6 v n ys) (hx : PipX n f ys) :
    Calls Try.prog 31 #[v, .int .i64 (k0 : Int)] w fun e w' => e = .returned (.int .i64 ((k0 + 4 * n : Nat) : Int)) ∧ Below B w w' ∧ But w w' v ∧ ∃ xs, w'.ownsRow B 68 6 v n xs ∧ PipX n (mkP k0 n f) xs := by
  rcases Nat.eq_zero_or_pos n with h0 | h0
  · subst h0
    obtain ⟨a, c, rfl, _⟩ := rd_of ho
    have HO := hid ho
    clear ho hx
    go_enter Try.func31, Try.ntmps31
    go_wp2_with fail
    refine wp_loop_rounds 1 ?_; rw [rounds_succ]; go_wp2_with fail
    go_ret
    exact ⟨by simp, Below.refl _ _, ⟨rfl, fun _ _ => rfl⟩, _, HO.out, fun i hi => by omega⟩
  obtain ⟨g, cap, rfl⟩ : ∃ g cap, v = .slice (some ⟨g, 0, none⟩) n cap := by
    rcases ho.2 with ⟨e, e0⟩ | ⟨g, cap, cur, e, _⟩
    · omega
    · exact ⟨g, cap, e⟩
  go_enter Try.func31, Try.ntmps31
  go_wp2_with fail
  go_loopw [1, 5] (fun k i wr => ∃ (j m : Nat), j ≤ n ∧ Hid (m = k0 + 4 * j) ∧ i = .int .i64 (j : Int) ∧ k = .int .i64 (m : Int) ∧ Hid (Below B w wr) ∧ Hid (wr.heap.size = w.heap.size) ∧ Hid (∀ b, b ≠ g → wr.heap[b]? = w.heap[b]?) ∧ ∃ xs : List Value, Hid (wr.ownsRow B 68 6 (.slice (some ⟨g, 0, none⟩) n cap) n xs) ∧ Hid (PipX n (mkP k0 j f) xs)) (fun _ i _ => n - (intOf i).toNat)
  case atStart => exact ⟨0, k0, Nat.zero_le _, hid rfl, rfl, rfl, hid (Below.refl _ _), hid rfl, hid (fun _ _ => rfl), _, hid ho, hid (hx.congr (fun i _ => by funext c; simp [mkP]))⟩
  case round =>
    clear ho hx
    obtain ⟨j, m, hj, hm, rfl, rfl, hbel, hsz, hoth, xs, hown, hxs⟩ := hrel
    by_cases hlt : j < n
    · obtain ⟨a1, a2, p1, p2, e0, e1, e2, e3, e4, e5⟩ := hxs.out j hlt
      have hlen := hown.out.1
      have hg0 := (hown.out.lt g rfl).1
      obtain ⟨m1, hm1⟩ : ∃ m1 : Nat, m1 = m + 1 := ⟨_, rfl⟩
      obtain ⟨m2, hm2⟩ : ∃ m2 : Nat, m2 = m + 2 := ⟨_, rfl⟩
      obtain ⟨m3, hm3⟩ : ∃ m3 : Nat, m3 = m + 3 := ⟨_, rfl⟩
      have hmb : m ≤ 5000000 := by have := hm.out; omega
      have v1 : IntKind.i64.wrap ((m : Int) + 1) = (m1 : Int) := by rw [IntKind.wrap_i64]; omega
      have v2 : IntKind.i64.wrap ((m1 : Int) + 1) = (m2 : Int) := by rw [IntKind.wrap_i64]; omega
      have v3 : IntKind.i64.wrap ((m2 : Int) + 1) = (m3 : Int) := by rw [IntKind.wrap_i64]; omega
      have v4 : IntKind.i64.wrap ((m3 : Int) + 1) = ((m + 4 : Nat) : Int) := by rw [IntKind.wrap_i64]; omega
      obtain ⟨W1, hW1⟩ : ∃ W, wr.setCell ⟨g, j * 6, none⟩ (.int .i64 (m : Int)) = W := ⟨_, rfl⟩
      obtain ⟨W2, hW2⟩ : ∃ W, W1.setCell ⟨g, j * 6 + 1, none⟩ (.int .i64 (m1 : Int)) = W := ⟨_, rfl⟩
      obtain ⟨W3, hW3⟩ : ∃ W, W2.setCell ⟨g, j * 6 + 4, none⟩ (.int .i64 (m2 : Int)) = W := ⟨_, rfl⟩
      obtain ⟨W4, hW4⟩ : ∃ W, W3.setCell ⟨g, j * 6 + 5, none⟩ (.int .i64 (m3 : Int)) = W := ⟨_, rfl⟩
      have f0 := hown.out.frozenAt (j * 6)
      have x0 := (hown.out.cellAt (j * 6) (by omega)).trans e0
      have hR1 := (hown.out.stored (j * 6) (.int .i64 (m : Int))).1
      rw [hW1] at hR1
      have f1 := hR1.frozenAt (j * 6 + 1)
      have x1 : W1.cell? ⟨g, j * 6 + 1, none⟩ = some (.int .i64 (mkP k0 j f j 1)) := by rw [hR1.cellAt _ (by omega), List.getElem?_set_ne (by omega), e1]
      have hR2 := (hR1.stored (j * 6 + 1) (.int .i64 (m1 : Int))).1
      rw [hW2] at hR2
      have x2 : W2.cell? ⟨g, j * 6 + 2, none⟩ = some (.slice a1 0 p1) := by rw [hR2.cellAt _ (by omega), List.getElem?_set_ne (by omega), List.getElem?_set_ne (by omega), e2]
      have x3 : W2.cell? ⟨g, j * 6 + 3, none⟩ = some (.slice a2 0 p2) := by rw [hR2.cellAt _ (by omega), List.getElem?_set_ne (by omega), List.getElem?_set_ne (by omega), e3]
      have f4 := hR2.frozenAt (j * 6 + 4)
      have x4 : W2.cell? ⟨g, j * 6 + 4, none⟩ = some (.int .i64 (mkP k0 j f j 2)) := by rw [hR2.cellAt _ (by omega), List.getElem?_set_ne (by omega), List.getElem?_set_ne (by omega), e4]
      have hR3 := (hR2.stored (j * 6 + 4) (.int .i64 (m2 : Int))).1
      rw [hW3] at hR3
      have f5 := hR3.frozenAt (j * 6 + 5)
      have x5 : W3.cell? ⟨g, j * 6 + 5, none⟩ = some (.int .i64 (mkP k0 j f j 3)) := by rw [hR3.cellAt _ (by omega), List.getElem?_set_ne (by omega), List.getElem?_set_ne (by omega), List.getElem?_set_ne (by omega), e5]
      have hR4 := (hR3.stored (j * 6 + 5) (.int .i64 (m3 : Int))).1
      rw [hW4] at hR4
      have hX := hxs.out.set hlt hlen
      have q0 : k0 + 4 * j = m := hm.out.symm
      have q1 : k0 + 4 * j + 1 = m1 := by omega
      have q2 : k0 + 4 * j + 2 = m2 := by omega
      have q3 : k0 + 4 * j + 3 = m3 := by omega
      rw [q1, q2, q3, q0] at hX
      have HX := hid hX
      have HR := hid hR4
      have HB : Hid (Below B w W4) := hid (by rw [← hW4, ← hW3, ← hW2, ← hW1]; exact (((hbel.out.setCell (p := ⟨g, j * 6, none⟩) hg0 _).setCell (p := ⟨g, j * 6 + 1, none⟩) hg0 _).setCell (p := ⟨g, j * 6 + 4, none⟩) hg0 _).setCell (p := ⟨g, j * 6 + 5, none⟩) hg0 _)
      have HZ : Hid (W4.heap.size = w.heap.size) := hid (by rw [← hW4, ← hW3, ← hW2, ← hW1, ← hsz.out]; simp [World.setCell])
      have HO : Hid (∀ b, b ≠ g → W4.heap[b]? = w.heap[b]?) := hid (fun b hb => by rw [← hW4, ← hW3, ← hW2, ← hW1]; exact (Below.heap_setCell _ _ _ _ hb).trans ((Below.heap_setCell _ _ _ _ hb).trans ((Below.heap_setCell _ _ _ _ hb).trans ((Below.heap_setCell _ _ _ _ hb).trans (hoth.out b hb)))))
      clear hR1 hR2 hR3 hR4 hX hlen hg0 e0 e1 e2 e3 e4 e5 q0 q1 q2 q3 hm1 hm2 hm3
      have i1 : (0 : Int) ≤ (j : Int) := Int.natCast_nonneg _
      have i2 : (j : Int) < (n : Int) := by omega
      go_wp2_with fail
      refine (mkBB0 _ _ _ _).mono ?_
      rintro e w1 ⟨rfl, rfl⟩
      go_wp2_with fail
      refine (mkB0 _ _ _ _).mono ?_
      rintro e w1 ⟨rfl, rfl⟩
      go_wp2_with fail
      go_roundw
      case rel => exact ⟨j + 1, m + 4, hlt, hid (by have := hm.out; omega), by go_num, by first | rfl | go_num, HB, HZ, HO, _, HR, HX⟩
      case measure => simp [intOf]; omega
    · obtain rfl : j = n := by omega
      have e := hm.out
      clear hm
      subst e
      go_wp2_with fail
      go_ret
      exact ⟨by simp, hbel.out, ⟨hsz.out, fun b hb => hoth.out b (fun e => hb (by rw [e]; rfl))⟩, _, hown.out, hxs.out⟩
end Go.Proofs.Ytbimcammjohaoae.fnExactNewWorld
