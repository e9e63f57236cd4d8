import Derived.Test.YtbimcammjohaoacUnS
namespace Go.Proofs.Ytbimcammjohaoac
open Go.ChangeShapes Go.WideShapes Go.ChangeAt Go.RowKit Go.Maps Go.Sort
set_option linter.unusedVariables false
set_option linter.unusedSimpArgs false

set_option maxRecDepth 100000 in
set_option maxHeartbeats 2000000 in
theorem specUn (g off n c : Nat) (R F T : Nat → Int) (a' : Option Addr) (n' c' : Nat) (R' F' T' : Nat → Int) (w : World) (hn : n ≤ 1048576) (hn' : n' ≤ 1048576) (h : RSeg w (some ⟨g, off, none⟩) n R F T) (h' : RSeg w a' n' R' F' T') :
    Calls Try.prog 17 #[.agg #[.slice (some ⟨g, off, none⟩) n c], .agg #[.slice a' n' c']] w fun e w' => ∃ v, e = .returned (.tuple #[.agg #[v], .bool (unB R F T n R' F' T' n')]) ∧ FR w' w.heap.size v (unZ R F T n R' F' T' n') ∧ Below w.heap.size w w' := by
  obtain ⟨a, ha⟩ : ∃ a : Option Addr, some ⟨g, off, none⟩ = a := ⟨_, rfl⟩
  have HU2 := hid (fun (w1 : World) (hb : Below w.heap.size w w1) (h1 : ctxB R F T n = true) (h2 : ctxB R' F' T' n' = true) => by
    have o1 := ctxB_iff.1 h1
    have o2 := ctxB_iff.1 h2
    have := specUnion2 g off n c R F T a' n' c' R' F' T' w1 o1.2 o2.2 (h.below hb) (h'.below hb) o1.1 o2.1
    rw [ha] at this
    exact this)
  rw [ha] at h ⊢
  clear ha
  have HH := hid h
  have HH' := hid h'
  clear h h'
  obtain ⟨W0, hW0⟩ : ∃ W0, ((w.alloc (.cells #[.slice a n c] 41)).alloc (.cells #[.slice a' n' c'] 41)).alloc (.cells #[.slice none 0 0] 41) = W0 := ⟨_, rfl⟩
  obtain ⟨Wa, hWa⟩ : ∃ Wa, (w.alloc (.cells #[.slice a n c] 41)).alloc (.cells #[.slice a' n' c'] 41) = Wa := ⟨_, rfl⟩
  have za : Wa.heap.size = w.heap.size + 2 := by rw [← hWa]; simp
  have bWa : Below w.heap.size w Wa := by rw [← hWa]; exact below2 _ _ _
  have xa0 : Wa.cell? ⟨w.heap.size, 0, none⟩ = some (.slice a n c) := by rw [← hWa]; simp
  have xa1 : Wa.cell? ⟨w.heap.size + 1, 0, none⟩ = some (.slice a' n' c') := by rw [← hWa]; simp
  have hW0' : Wa.alloc (.cells #[.slice none 0 0] 41) = W0 := by rw [← hWa]; exact hW0
  have bW0 : Below Wa.heap.size Wa W0 := by rw [← hW0']; exact (Below.refl _ _).alloc (Nat.le_refl _) _
  have HB0 : Hid (Below w.heap.size w W0) := hid (keepS bWa bW0)
  have z0 : W0.heap.size = w.heap.size + 3 := by rw [← hW0']; simp; omega
  have x0 : W0.cell? ⟨w.heap.size, 0, none⟩ = some (.slice a n c) := (bW0.cell (p := ⟨w.heap.size, 0, none⟩) (show w.heap.size < Wa.heap.size by omega)).trans xa0
  have x1 : W0.cell? ⟨w.heap.size + 1, 0, none⟩ = some (.slice a' n' c') := (bW0.cell (p := ⟨w.heap.size + 1, 0, none⟩) (show w.heap.size + 1 < Wa.heap.size by omega)).trans xa1
  have x2 : W0.cell? ⟨w.heap.size + 1 + 1, 0, none⟩ = some (.slice none 0 0) := by rw [← hW0', show w.heap.size + 1 + 1 = Wa.heap.size from by omega]; simp
  have y2 : W0.frozen? ⟨w.heap.size + 1 + 1, 0, none⟩ = false := by rw [← hW0', show w.heap.size + 1 + 1 = Wa.heap.size from by omega]; simp
  clear hWa xa0 xa1 hW0' bW0 bWa za
  have HO1 := hid (specOk a n c R F T W0 hn (HH.out.below HB0.out))
  have HUB : Hid (unB R F T n R' F' T' n' = (ctxB R F T n && ctxB R' F' T' n' && decide ((unL R F T n R' F' T' n').length ≤ 1000))) := hid rfl
  have HUZ : Hid (unZ R F T n R' F' T' n' = if (ctxB R F T n && ctxB R' F' T' n' && decide ((unL R F T n R' F' T' n').length ≤ 1000)) then unL R F T n R' F' T' n' else []) := hid rfl
  have HO2 : Hid (∀ w1, Below w.heap.size w w1 → Calls Try.prog 37 #[.agg #[.slice a' n' c']] w1 fun e w' => e = .returned (.bool (ctxB R' F' T' n')) ∧ Below w1.heap.size w1 w') := hid fun w1 hb => specOk a' n' c' R' F' T' w1 hn' (HH'.out.below hb)
  generalize unL R F T n R' F' T' n' = ul at *
  generalize unB R F T n R' F' T' n' = ub at *
  generalize unZ R F T n R' F' T' n' = uz at *
  generalize ctxB R F T n = q1 at *
  generalize ctxB R' F' T' n' = q2 at *
  go_enter Try.func17, Try.ntmps17
  go_wp2_with fail
  try rw [hW0]
  clear hW0
  refine HO1.out.mono ?_
  rintro e w1 ⟨rfl, b1⟩
  have HB1 := hid (keepS HB0.out b1)
  have z1 := b1.size
  have c0 := (b1.cell (p := ⟨w.heap.size, 0, none⟩) (show w.heap.size < W0.heap.size by omega)).trans x0
  have c1 := (b1.cell (p := ⟨w.heap.size + 1, 0, none⟩) (show w.heap.size + 1 < W0.heap.size by omega)).trans x1
  have c2 := (b1.cell (p := ⟨w.heap.size + 1 + 1, 0, none⟩) (show w.heap.size + 1 + 1 < W0.heap.size by omega)).trans x2
  have f2 := ((bcell b1).2 (w.heap.size + 1 + 1) 0 (by omega)).trans y2
  clear b1 x0 x1 x2 y2 HO1 HB0
  cases q1 with
  | false =>
    have HE : Hid (ub = false ∧ uz = []) := hid ⟨HUB.out, HUZ.out⟩
    have HB6 : Hid (Below w.heap.size w (w1.setCell ⟨w.heap.size + 1 + 1, 0, none⟩ (.slice none 0 0))) := hid (HB1.out.setCell (p := ⟨w.heap.size + 1 + 1, 0, none⟩) (by show w.heap.size ≤ w.heap.size + 1 + 1; omega) _)
    have k6 := World.cell?_setCell_same w1 ⟨w.heap.size + 1 + 1, 0, none⟩ (.slice none 0 0) c2
    clear HUB HUZ HU2 HO2
    go_wp2_with fail
    refine bodyPost_ret (v := .tuple #[.agg #[.slice none 0 0], .bool false]) (by simp [results, Try.results17, go_sem, k6]) rfl ⟨_, by rw [HE.out.1], ?_, HB6.out⟩
    rw [HE.out.2]; exact World.ownsRow_nil _ _ _ _
  | true =>
    go_wp2_with fail
    refine (HO2.out w1 HB1.out).mono ?_
    rintro e w2 ⟨rfl, b2⟩
    have HB2 := hid (keepS HB1.out b2)
    have z2 := b2.size
    have d0 := (b2.cell (p := ⟨w.heap.size, 0, none⟩) (show w.heap.size < w1.heap.size by omega)).trans c0
    have d1 := (b2.cell (p := ⟨w.heap.size + 1, 0, none⟩) (show w.heap.size + 1 < w1.heap.size by omega)).trans c1
    have d2 := (b2.cell (p := ⟨w.heap.size + 1 + 1, 0, none⟩) (show w.heap.size + 1 + 1 < w1.heap.size by omega)).trans c2
    have k2 := ((bcell b2).2 (w.heap.size + 1 + 1) 0 (by omega)).trans f2
    clear b2 c0 c1 c2 f2 HB1 HO2
    cases q2 with
    | false =>
      have HE : Hid (ub = false ∧ uz = []) := hid ⟨HUB.out, HUZ.out⟩
      have HB6 : Hid (Below w.heap.size w (w2.setCell ⟨w.heap.size + 1 + 1, 0, none⟩ (.slice none 0 0))) := hid (HB2.out.setCell (p := ⟨w.heap.size + 1 + 1, 0, none⟩) (by show w.heap.size ≤ w.heap.size + 1 + 1; omega) _)
      have k6 := World.cell?_setCell_same w2 ⟨w.heap.size + 1 + 1, 0, none⟩ (.slice none 0 0) d2
      clear HUB HUZ HU2
      go_wp2_with fail
      refine bodyPost_ret (v := .tuple #[.agg #[.slice none 0 0], .bool false]) (by simp [results, Try.results17, go_sem, k6]) rfl ⟨_, by rw [HE.out.1], ?_, HB6.out⟩
      rw [HE.out.2]; exact World.ownsRow_nil _ _ _ _
    | true =>
      have HC := hid (HU2.out w2 HB2.out (by simp) (by simp))
      clear HU2
      go_wp2_with fail
      refine HC.out.mono ?_
      rintro e w3 ⟨v3, rfl, hf3, b3⟩
      obtain ⟨y, m, cv, rfl⟩ := row_form hf3
      have hm : m = ul.length := by
        rcases hf3.2 with ⟨e, e0⟩ | ⟨g, cap, cur, e, _⟩
        · injection e with e1 e2 e3; omega
        · injection e with e1 e2 e3
      subst hm
      obtain ⟨W4, hW4⟩ : ∃ W4, w3.alloc (.cells #[.slice y ul.length cv] 41) = W4 := ⟨_, rfl⟩
      have b4 : Below w3.heap.size w3 W4 := by rw [← hW4]; exact (Below.refl _ _).alloc (Nat.le_refl _) _
      have b34 := keepS b3 b4
      have z3 := b3.size
      have t4 : W4.cell? ⟨w3.heap.size, 0, none⟩ = some (.slice y ul.length cv) := by rw [← hW4]; simp
      have d4 := (b34.cell (p := ⟨w.heap.size + 1 + 1, 0, none⟩) (show w.heap.size + 1 + 1 < w2.heap.size by omega)).trans d2
      have k4 := ((bcell b34).2 (w.heap.size + 1 + 1) 0 (by omega)).trans k2
      have HB4 := hid (keepS HB2.out b34)
      have HF4 : Hid (FR W4 w2.heap.size (.slice y ul.length cv) ul) := hid (row_below hf3 b4)
      clear b3 b4 b34 hf3 d0 d1 d2 k2 HC HB2
      by_cases hlen : ul.length ≤ 1000
      · have t1 : decide (1000 < ul.length) = false := by simp; omega
        have HE : Hid (ub = true ∧ uz = ul) := by
          refine hid ⟨?_, ?_⟩
          · rw [HUB.out]; simp; exact hlen
          · rw [HUZ.out]; simp; intro h; omega
        have HB6 : Hid (Below w.heap.size w (W4.setCell ⟨w.heap.size + 1 + 1, 0, none⟩ (.slice y ul.length cv))) := hid (HB4.out.setCell (p := ⟨w.heap.size + 1 + 1, 0, none⟩) (by show w.heap.size ≤ w.heap.size + 1 + 1; omega) _)
        have HF6 : Hid (FR (W4.setCell ⟨w.heap.size + 1 + 1, 0, none⟩ (.slice y ul.length cv)) w.heap.size (.slice y ul.length cv) ul) := by
          refine hid ?_
          refine World.ownsRow.kept (HF4.out.weak (by omega)) (grownSet W4 ⟨w.heap.size + 1 + 1, 0, none⟩ _) ?_
          cases e : (Value.slice y ul.length cv).ownBlock with
          | none => exact .inl rfl
          | some g => exact .inr (fun e2 => by have := (World.ownsRow.lt HF4.out g e).1; injection e2 with e2; have e2 : g = w.heap.size + 1 + 1 := e2; omega)
        have k6 := World.cell?_setCell_same W4 ⟨w.heap.size + 1 + 1, 0, none⟩ (.slice y ul.length cv) d4
        clear HUB HUZ
        go_wp2_with fail
        try rw [hW4]
        refine bodyPost_ret (v := .tuple #[.agg #[.slice y ul.length cv], .bool true]) (by simp [results, Try.results17, go_sem, k6]) rfl ⟨_, by rw [HE.out.1], ?_, HB6.out⟩
        rw [HE.out.2]; exact HF6.out
      · have t1 : decide (1000 < ul.length) = true := by simp; omega
        have HE : Hid (ub = false ∧ uz = []) := by
          refine hid ⟨?_, ?_⟩
          · rw [HUB.out]; simp; omega
          · rw [HUZ.out]; simp; intro h; omega
        have HB6 : Hid (Below w.heap.size w (W4.setCell ⟨w.heap.size + 1 + 1, 0, none⟩ (.slice none 0 0))) := hid (HB4.out.setCell (p := ⟨w.heap.size + 1 + 1, 0, none⟩) (by show w.heap.size ≤ w.heap.size + 1 + 1; omega) _)
        have k6 := World.cell?_setCell_same W4 ⟨w.heap.size + 1 + 1, 0, none⟩ (.slice none 0 0) d4
        clear HUB HUZ
        go_wp2_with fail
        try rw [hW4]
        refine bodyPost_ret (v := .tuple #[.agg #[.slice none 0 0], .bool false]) (by simp [results, Try.results17, go_sem, k6]) rfl ⟨_, by rw [HE.out.1], ?_, HB6.out⟩
        rw [HE.out.2]; exact World.ownsRow_nil _ _ _ _
end Go.Proofs.Ytbimcammjohaoac
