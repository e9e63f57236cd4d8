import Derived.Test.YtbimcammjohaoadGreatDoorMg22
namespace Go.Proofs.YtbimcammjohaoadGreatDoor
open Go.ChangeShapes Go.WideShapes Go.ChangeAt Go.RowKit Go.Maps Go.Sort
set_option linter.unusedVariables false
set_option linter.unusedSimpArgs false

theorem ins_len (l : List Rn) (r : Rn) : (ins l r).length ≤ l.length + 1 := by
  have := stK_len l r l.length (Nat.le_refl _)
  rw [stK_all] at this
  unfold ins
  simp only [List.length_append, List.length_singleton]
  omega
theorem unF_len : ∀ (b l : List Rn), (unF l b).length ≤ l.length + b.length
  | [], l => by simp [unF]
  | q :: b, l => by
    have h1 := unF_len b (ins l q)
    have h2 := ins_len l q
    show (unF (ins l q) b).length ≤ _
    simp only [List.length_cons]
    omega
theorem unF_snoc (l b : List Rn) (q : Rn) : unF l (b ++ [q]) = ins (unF l b) q := by simp [unF]
theorem flat_len (R F T : Nat → Int) (n : Nat) : (flat R F T n).length = n := by simp [flat]
theorem flat_at (R F T : Nat → Int) (n i : Nat) (h : i < n) : gR (flat R F T n) i = (R i, F i, T i) := by simp [gR, flat, List.getD, h]

theorem fCells_at (l : List Rn) (j : Nat) (u : Value) (h : (fCells l)[j]? = some u) : j / 3 < l.length ∧ ((j % 3 = 0 ∧ u = .int .i64 (gR l (j / 3)).1) ∨ (j % 3 = 1 ∧ u = .int .i64 (gR l (j / 3)).2.1) ∨ (j % 3 = 2 ∧ u = .int .i64 (gR l (j / 3)).2.2)) := by
  induction l generalizing j with
  | nil => simp [fCells] at h
  | cons a l ih =>
    have e : fCells (a :: l) = .int .i64 a.1 :: .int .i64 a.2.1 :: .int .i64 a.2.2 :: fCells l := by simp [fCells]
    rw [e] at h
    match j, h with
    | 0, h => simp at h; simp [gR, h]
    | 1, h => simp at h; simp [gR, h]
    | 2, h => simp at h; simp [gR, h]
    | j + 3, h =>
      have h : (fCells l)[j]? = some u := by simpa using h
      obtain ⟨h1, h2⟩ := ih j h
      have e1 : (j + 3) / 3 = j / 3 + 1 := by omega
      have e2 : (j + 3) % 3 = j % 3 := by omega
      rw [e1, e2]
      refine ⟨by simp; omega, ?_⟩
      simpa [gR] using h2

theorem rseg_cells {w : World} {g off n : Nat} {R F T : Nat → Int} (h : RSeg w (some ⟨g, off, none⟩) n R F T) : ∀ j u, (fCells (flat R F T n))[j]? = some u → w.cell? ((⟨g, off, none⟩ : Addr).add j) = some u := by
  intro j u hj
  obtain ⟨h1, h2⟩ := fCells_at _ j u hj
  rw [flat_len] at h1
  obtain ⟨b, o, e, hb, c0, c1, c2⟩ := h.at h1
  injection e with e
  injection e with e3 e4
  subst e3 e4
  rw [flat_at _ _ _ _ _ h1] at h2
  have ej : j = j / 3 * 3 + j % 3 := by omega
  rcases h2 with ⟨q, rfl⟩ | ⟨q, rfl⟩ | ⟨q, rfl⟩
  · rw [Addr.add_lit, show off + j = off + j / 3 * 3 from by omega]; exact c0
  · rw [Addr.add_lit, show off + j = off + j / 3 * 3 + 1 from by omega]; exact c1
  · rw [Addr.add_lit, show off + j = off + j / 3 * 3 + 2 from by omega]; exact c2

theorem FR.weak {w : World} {B C : Nat} {v : Value} {l : List Rn} (h : FR w B v l) (hc : C ≤ B) : FR w C v l := by
  obtain ⟨q1, q2⟩ := h
  refine ⟨q1, q2.imp id ?_⟩
  rintro ⟨g, cap, cur, e, hg, r⟩
  exact ⟨g, cap, cur, e, by omega, r⟩

set_option maxRecDepth 100000 in
set_option maxHeartbeats 2000000 in
theorem specUnion2 (g off n c : Nat) (R F T : Nat → Int) (a' : Option Addr) (n' c' : Nat) (R' F' T' : Nat → Int) (w : World) (hn : n ≤ 1000) (hn' : n' ≤ 1000) (h : RSeg w (some ⟨g, off, none⟩) n R F T) (h' : RSeg w a' n' R' F' T') (ho : okTo R F T n) (ho' : okTo R' F' T' n') :
    Calls Tryz.prog 17 #[.agg #[.slice (some ⟨g, off, none⟩) n c], .agg #[.slice a' n' c']] w fun e w' => ∃ v, e = .returned (.agg #[v]) ∧ FR w' w.heap.size v (unL R F T n R' F' T' n') ∧ Below w.heap.size w w' := by
  obtain ⟨i0, hi, hz0, hz1, hz2⟩ := info_parts Tryz.infoRun
  obtain ⟨uk, huk⟩ : ∃ uk : Nat → List Rn, (fun k => unF (flat R F T n) (flat R' F' T' k)) = uk := ⟨_, rfl⟩
  have HU0 : Hid (uk 0 = flat R F T n) := by rw [← huk]; exact hid rfl
  have HUS : Hid (∀ k, uk (k + 1) = ins (uk k) (R' k, F' k, T' k)) := by rw [← huk]; exact hid fun k => by show unF _ (flat R' F' T' (k + 1)) = _; rw [flat_succ, unF_snoc]
  have HUE : Hid (uk n' = unL R F T n R' F' T' n') := by rw [← huk]; exact hid rfl
  have HUL : Hid (∀ k, (uk k).length ≤ n + k) := by rw [← huk]; exact hid fun k => by have := unF_len (flat R' F' T' k) (flat R F T n); rw [flat_len, flat_len] at this; exact this
  have HUF : Hid (∀ k, k ≤ n' → FSrt (uk k)) := by rw [← huk]; exact hid fun k hk => (unF_ok _ _ (flat_srt n ho) (flat_srt k (fun i hi => ho' i (by omega))).2).1
  have HRK : Hid (∀ k, k < n' → Rok (R' k, F' k, T' k)) := hid fun k hk => runOk_iff.1 (ho' k hk).1
  have HFC := hid (rseg_cells h)
  have HFL := hid (flat_len R F T n)
  clear huk ho ho'
  obtain ⟨fa, hfa⟩ : ∃ fa, flat R F T n = fa := ⟨_, rfl⟩
  rw [hfa] at HU0 HFC HFL
  clear hfa
  obtain ⟨W0, hW0⟩ : ∃ W0, ((w.alloc (.cells #[.slice (some ⟨g, off, none⟩) n c] 25)).alloc (.cells #[.slice a' n' c'] 25)).alloc (.cells #[.slice none 0 0] 25) = W0 := ⟨_, rfl⟩
  obtain ⟨Wa, hWa⟩ : ∃ Wa, (w.alloc (.cells #[.slice (some ⟨g, off, none⟩) n c] 25)).alloc (.cells #[.slice a' n' c'] 25) = Wa := ⟨_, rfl⟩
  have za : Wa.heap.size = w.heap.size + 2 := by rw [← hWa]; simp
  have bWa : Below w.heap.size w Wa := by rw [← hWa]; exact below2 _ _ _
  have xa0 : Wa.cell? ⟨w.heap.size, 0, none⟩ = some (.slice (some ⟨g, off, none⟩) n c) := by rw [← hWa]; simp
  have xa1 : Wa.cell? ⟨w.heap.size + 1, 0, none⟩ = some (.slice a' n' c') := by rw [← hWa]; simp
  have hW0' : Wa.alloc (.cells #[.slice none 0 0] 25) = W0 := by rw [← hWa]; exact hW0
  have bW0 : Below Wa.heap.size Wa W0 := by rw [← hW0']; exact (Below.refl _ _).alloc (Nat.le_refl _) _
  have HB0 : Hid (Below w.heap.size w W0) := hid (keepS bWa bW0)
  have HZ0 : Hid (W0.heap.size = w.heap.size + 3) := hid (by rw [← hW0']; simp; omega)
  have x0 : W0.cell? ⟨w.heap.size, 0, none⟩ = some (.slice (some ⟨g, off, none⟩) n c) := (bW0.cell (p := ⟨w.heap.size, 0, none⟩) (show w.heap.size < Wa.heap.size by omega)).trans xa0
  have x1 : W0.cell? ⟨w.heap.size + 1, 0, none⟩ = some (.slice a' n' c') := (bW0.cell (p := ⟨w.heap.size + 1, 0, none⟩) (show w.heap.size + 1 < Wa.heap.size by omega)).trans xa1
  have x2 : W0.cell? ⟨w.heap.size + 1 + 1, 0, none⟩ = some (.slice none 0 0) := by rw [← hW0', show w.heap.size + 1 + 1 = Wa.heap.size from by omega]; simp
  have y2 : W0.frozen? ⟨w.heap.size + 1 + 1, 0, none⟩ = false := by rw [← hW0', show w.heap.size + 1 + 1 = Wa.heap.size from by omega]; simp
  clear hWa xa0 xa1 hW0' bW0 bWa za
  have HH' := hid h'
  have HCB : Hid (∀ w1, Below w.heap.size w w1 → ∀ j u, (fCells fa)[j]? = some u → w1.cell? ((⟨g, off, none⟩ : Addr).add j) = some u) := by
    refine hid fun w1 hb j u hj => ?_
    have h1 := HFC.out j u hj
    have hjl : j < (fCells fa).length := by
      rcases Nat.lt_or_ge j (fCells fa).length with h | h
      · exact h
      · rw [List.getElem?_eq_none h] at hj; cases hj
    rw [fCells_len, HFL.out] at hjl
    have hg : g < w.heap.size := by
      rcases h with h | ⟨b, o, e, hb, _⟩
      · omega
      · injection e with e; injection e with e3 e4; subst e3; exact hb
    rw [Addr.add_lit] at h1 ⊢
    exact (hb.cell (p := ⟨g, off + j, none⟩) hg).trans h1
  clear h h' HFC
  obtain ⟨W1, hW1⟩ : ∃ W1, W0.alloc (.cells #[] 41) = W1 := ⟨_, rfl⟩
  have b1 : Below W0.heap.size W0 W1 := by rw [← hW1]; exact (Below.refl _ _).alloc (Nat.le_refl _) _
  have u0 := (b1.cell (p := ⟨w.heap.size, 0, none⟩) (show w.heap.size < W0.heap.size by have := HZ0.out; omega)).trans x0
  have u1 := (b1.cell (p := ⟨w.heap.size + 1, 0, none⟩) (show w.heap.size + 1 < W0.heap.size by have := HZ0.out; omega)).trans x1
  have u2 := (b1.cell (p := ⟨w.heap.size + 1 + 1, 0, none⟩) (show w.heap.size + 1 + 1 < W0.heap.size by have := HZ0.out; omega)).trans x2
  have v2 := ((bcell b1).2 (w.heap.size + 1 + 1) 0 (by have := HZ0.out; omega)).trans y2
  have HR1 : Hid (W1.ownsRow (w.heap.size + 3) 41 3 (.slice (some ⟨W0.heap.size, 0, none⟩) 0 0) 0 []) := by
    rw [← hW1]
    exact hid (World.ownsRow_lit (base := w.heap.size + 3) (e := 41) (size := 3) W0 #[] 0 (by have := HZ0.out; omega) (by unfold maxLen; omega) rfl)
  have HB1 := hid (keepS HB0.out b1)
  have HZ1 : Hid (w.heap.size + 3 ≤ W1.heap.size) := hid (by have := b1.size; have := HZ0.out; omega)
  clear b1 x0 x1 x2 y2
  go_enter Tryz.func17, Tryz.ntmps17
  go_wp2_with (at_builtin; refine wpList_app_at rfl _ _ 23 rfl (w.heap.size + 3) 41 i0 _ 3 24 Tryz.underlying23 hi hz0 hz1 hz2 rfl (by decide) (.slice (some ⟨W0.heap.size, 0, none⟩) 0 0) 0 [] rfl HR1.out ⟨g, off, none⟩ n c (fCells fa) rfl ?c1 (HCB.out W1 HB1.out) (fCells_one fa) ?c4 ?c5 HZ1.out ?_)
  case c1 => rw [fCells_len, HFL.out]
  case c4 => unfold maxLen; omega
  case c5 => omega
  intro v3 w3 hown3 hgr3 hloc3
  have hne : ∀ q, q < w.heap.size + 3 → some q ≠ (Value.slice (some ⟨W0.heap.size, 0, none⟩) 0 0).ownBlock := fun q hq e => by
    have := HZ0.out
    simp [Value.ownBlock] at e
    omega
  have z3 : w.heap.size + 3 ≤ w3.heap.size := by have := hgr3.size; have := HZ1.out; omega
  have d1 := hgr3.cell u1 (hne (w.heap.size + 1) (by omega))
  have d2 := hgr3.cell u2 (hne (w.heap.size + 1 + 1) (by omega))
  have k2 : w3.frozen? ⟨w.heap.size + 1 + 1, 0, none⟩ = false := (World.frozen?_of_block (hgr3.block (w.heap.size + 1 + 1) (by have := HZ1.out; omega) (hne _ (by omega)))).trans v2
  have HF3 : Hid (FR w3 (w.heap.size + 3) v3 (uk 0)) := by
    rw [HU0.out]
    unfold FR
    rw [HFL.out]
    have h1 := hown3
    exact hid h1
  have HB3 : Hid (Below w.heap.size w w3) := hid (HB1.out.grown hgr3 (by have := HZ1.out; omega) (fun k hk => by have := HZ0.out; simp [Value.ownBlock] at hk; omega))
  clear hown3 hgr3 hloc3 u0 u1 u2 v2 hW1 hW0 hne
  go_wp2_with fail
  go_loopw [5, 6] (fun u5 iv wr => ∃ (k : Nat), k ≤ n' ∧ iv = .int .i64 k ∧ Hid (FR wr (w.heap.size + 3) u5 (uk k)) ∧ wr.cell? ⟨w.heap.size + 1, 0, none⟩ = some (.slice a' n' c') ∧ wr.cell? ⟨w.heap.size + 1 + 1, 0, none⟩ = some (.slice none 0 0) ∧ wr.frozen? ⟨w.heap.size + 1 + 1, 0, none⟩ = false ∧ Hid (Below w.heap.size w wr) ∧ w.heap.size + 3 ≤ wr.heap.size) (fun _ iv _ => n' - (intOf iv).toNat)
  case atStart => exact ⟨0, Nat.zero_le _, rfl, HF3, d1, d2, k2, HB3, z3⟩
  case round =>
    clear d1 d2 k2 z3
    obtain ⟨k, hk, rfl, hfr, e1, e2, j2, hbel, zr⟩ := hrel
    by_cases hlt : k < n'
    · obtain ⟨gb, ob, rfl, hgb, q0, q1, q2⟩ := (HH'.out.below hbel.out).at hlt
      obtain ⟨x, cc, rfl, hfs, hcc1, hcc2⟩ := hfr.out.fs
      have hul := HUL.out k
      have HC := hid (specIns x cc (uk k) (R' k) (F' k) (T' k) wr (by omega) hfs (HUF.out k hk) (HRK.out k hlt))
      have HN := hid (HUS.out k)
      obtain ⟨ln, hln⟩ : ∃ ln, (uk k).length = ln := ⟨_, rfl⟩
      rw [hln] at HC
      clear hfs
      go_wp2_with fail
      try rw [hln]
      refine HC.out.mono ?_
      rintro e w4 ⟨v4, rfl, hf4, b4⟩
      have HF4 : Hid (FR w4 (w.heap.size + 3) v4 (uk (k + 1))) := by rw [HN.out]; exact hid (hf4.weak zr)
      have r1 := (b4.cell (p := ⟨w.heap.size + 1, 0, none⟩) (show w.heap.size + 1 < wr.heap.size by omega)).trans e1
      have r2 := (b4.cell (p := ⟨w.heap.size + 1 + 1, 0, none⟩) (show w.heap.size + 1 + 1 < wr.heap.size by omega)).trans e2
      have s2 := ((bcell b4).2 (w.heap.size + 1 + 1) 0 (by omega)).trans j2
      have HB4 := hid (keepS hbel.out b4)
      have z4 := b4.size
      clear hf4 b4 e1 e2 j2 q0 q1 q2 hln
      go_wp2_with fail
      go_roundw
      case rel => exact ⟨k + 1, hlt, by go_num, HF4, r1, r2, s2, HB4, by omega⟩
      case measure => simp [intOf]; omega
    · obtain rfl : k = n' := by omega
      have HFE : Hid (FR wr (w.heap.size + 3) u5 (unL R F T n R' F' T' k)) := by rw [← HUE.out]; exact hfr
      obtain ⟨y, m, cv, rfl⟩ := row_form HFE.out
      have HF6 : Hid (FR (wr.setCell ⟨w.heap.size + 1 + 1, 0, none⟩ (.slice y m cv)) w.heap.size (.slice y m cv) (unL R F T n R' F' T' k)) := by
        refine hid ?_
        refine World.ownsRow.kept (HFE.out.weak (by omega)) (grownSet wr ⟨w.heap.size + 1 + 1, 0, none⟩ _) ?_
        cases e : (Value.slice y m cv).ownBlock with
        | none => exact .inl rfl
        | some g => exact .inr (fun e2 => by have := (World.ownsRow.lt HFE.out g e).1; injection e2 with e2; have e2 : g = w.heap.size + 1 + 1 := e2; omega)
      have HB6 : Hid (Below w.heap.size w (wr.setCell ⟨w.heap.size + 1 + 1, 0, none⟩ (.slice y m cv))) := hid (hbel.out.setCell (p := ⟨w.heap.size + 1 + 1, 0, none⟩) (by show w.heap.size ≤ w.heap.size + 1 + 1; omega) _)
      have k6 := World.cell?_setCell_same wr ⟨w.heap.size + 1 + 1, 0, none⟩ (.slice y m cv) e2
      clear hfr
      go_wp2_with fail
      refine bodyPost_ret (v := .agg #[.slice y m cv]) (by simp [results, Tryz.results17, go_sem, k6]) rfl ⟨_, rfl, HF6.out, HB6.out⟩
end Go.Proofs.YtbimcammjohaoadGreatDoor

namespace Go.Proofs.YtbimcammjohaoadGreatDoor
open Go.ChangeShapes Go.WideShapes Go.ChangeAt Go.RowKit Go.Maps Go.Sort
set_option linter.unusedVariables false
set_option linter.unusedSimpArgs false

set_option maxRecDepth 100000 in
set_option maxHeartbeats 2000000 in
theorem specUn (g off n c : Nat) (R F T : Nat → Int) (a' : Option Addr) (n' c' : Nat) (R' F' T' : Nat → Int) (w : World) (hn : n ≤ 1048576) (hn' : n' ≤ 1048576) (h : RSeg w (some ⟨g, off, none⟩) n R F T) (h' : RSeg w a' n' R' F' T') :
    Calls Tryz.prog 5 #[.agg #[.slice (some ⟨g, off, none⟩) n c], .agg #[.slice a' n' c']] w fun e w' => ∃ v, e = .returned (.tuple #[.agg #[v], .bool (unB R F T n R' F' T' n')]) ∧ FR w' w.heap.size v (unZ R F T n R' F' T' n') ∧ Below w.heap.size w w' := by
  obtain ⟨a, ha⟩ : ∃ a : Option Addr, some ⟨g, off, none⟩ = a := ⟨_, rfl⟩
  have HU2 := hid (fun (w1 : World) (hb : Below w.heap.size w w1) (h1 : ctxB R F T n = true) (h2 : ctxB R' F' T' n' = true) => by
    have o1 := ctxB_iff.1 h1
    have o2 := ctxB_iff.1 h2
    have := specUnion2 g off n c R F T a' n' c' R' F' T' w1 o1.2 o2.2 (h.below hb) (h'.below hb) o1.1 o2.1
    rw [ha] at this
    exact this)
  rw [ha] at h ⊢
  clear ha
  have HH := hid h
  have HH' := hid h'
  clear h h'
  obtain ⟨W0, hW0⟩ : ∃ W0, ((w.alloc (.cells #[.slice a n c] 25)).alloc (.cells #[.slice a' n' c'] 25)).alloc (.cells #[.slice none 0 0] 25) = W0 := ⟨_, rfl⟩
  obtain ⟨Wa, hWa⟩ : ∃ Wa, (w.alloc (.cells #[.slice a n c] 25)).alloc (.cells #[.slice a' n' c'] 25) = Wa := ⟨_, rfl⟩
  have za : Wa.heap.size = w.heap.size + 2 := by rw [← hWa]; simp
  have bWa : Below w.heap.size w Wa := by rw [← hWa]; exact below2 _ _ _
  have xa0 : Wa.cell? ⟨w.heap.size, 0, none⟩ = some (.slice a n c) := by rw [← hWa]; simp
  have xa1 : Wa.cell? ⟨w.heap.size + 1, 0, none⟩ = some (.slice a' n' c') := by rw [← hWa]; simp
  have hW0' : Wa.alloc (.cells #[.slice none 0 0] 25) = W0 := by rw [← hWa]; exact hW0
  have bW0 : Below Wa.heap.size Wa W0 := by rw [← hW0']; exact (Below.refl _ _).alloc (Nat.le_refl _) _
  have HB0 : Hid (Below w.heap.size w W0) := hid (keepS bWa bW0)
  have z0 : W0.heap.size = w.heap.size + 3 := by rw [← hW0']; simp; omega
  have x0 : W0.cell? ⟨w.heap.size, 0, none⟩ = some (.slice a n c) := (bW0.cell (p := ⟨w.heap.size, 0, none⟩) (show w.heap.size < Wa.heap.size by omega)).trans xa0
  have x1 : W0.cell? ⟨w.heap.size + 1, 0, none⟩ = some (.slice a' n' c') := (bW0.cell (p := ⟨w.heap.size + 1, 0, none⟩) (show w.heap.size + 1 < Wa.heap.size by omega)).trans xa1
  have x2 : W0.cell? ⟨w.heap.size + 1 + 1, 0, none⟩ = some (.slice none 0 0) := by rw [← hW0', show w.heap.size + 1 + 1 = Wa.heap.size from by omega]; simp
  have y2 : W0.frozen? ⟨w.heap.size + 1 + 1, 0, none⟩ = false := by rw [← hW0', show w.heap.size + 1 + 1 = Wa.heap.size from by omega]; simp
  clear hWa xa0 xa1 hW0' bW0 bWa za
  have HO1 := hid (specOk a n c R F T W0 hn (HH.out.below HB0.out))
  have HUB : Hid (unB R F T n R' F' T' n' = (ctxB R F T n && ctxB R' F' T' n' && decide ((unL R F T n R' F' T' n').length ≤ 1000))) := hid rfl
  have HUZ : Hid (unZ R F T n R' F' T' n' = if (ctxB R F T n && ctxB R' F' T' n' && decide ((unL R F T n R' F' T' n').length ≤ 1000)) then unL R F T n R' F' T' n' else []) := hid rfl
  have HO2 : Hid (∀ w1, Below w.heap.size w w1 → Calls Tryz.prog 16 #[.agg #[.slice a' n' c']] w1 fun e w' => e = .returned (.bool (ctxB R' F' T' n')) ∧ Below w1.heap.size w1 w') := hid fun w1 hb => specOk a' n' c' R' F' T' w1 hn' (HH'.out.below hb)
  generalize unL R F T n R' F' T' n' = ul at *
  generalize unB R F T n R' F' T' n' = ub at *
  generalize unZ R F T n R' F' T' n' = uz at *
  generalize ctxB R F T n = q1 at *
  generalize ctxB R' F' T' n' = q2 at *
  go_enter Tryz.func5, Tryz.ntmps5
  go_wp2_with fail
  try rw [hW0]
  clear hW0
  refine HO1.out.mono ?_
  rintro e w1 ⟨rfl, b1⟩
  have HB1 := hid (keepS HB0.out b1)
  have z1 := b1.size
  have c0 := (b1.cell (p := ⟨w.heap.size, 0, none⟩) (show w.heap.size < W0.heap.size by omega)).trans x0
  have c1 := (b1.cell (p := ⟨w.heap.size + 1, 0, none⟩) (show w.heap.size + 1 < W0.heap.size by omega)).trans x1
  have c2 := (b1.cell (p := ⟨w.heap.size + 1 + 1, 0, none⟩) (show w.heap.size + 1 + 1 < W0.heap.size by omega)).trans x2
  have f2 := ((bcell b1).2 (w.heap.size + 1 + 1) 0 (by omega)).trans y2
  clear b1 x0 x1 x2 y2 HO1 HB0
  cases q1 with
  | false =>
    have HE : Hid (ub = false ∧ uz = []) := hid ⟨HUB.out, HUZ.out⟩
    have HB6 : Hid (Below w.heap.size w (w1.setCell ⟨w.heap.size + 1 + 1, 0, none⟩ (.slice none 0 0))) := hid (HB1.out.setCell (p := ⟨w.heap.size + 1 + 1, 0, none⟩) (by show w.heap.size ≤ w.heap.size + 1 + 1; omega) _)
    have k6 := World.cell?_setCell_same w1 ⟨w.heap.size + 1 + 1, 0, none⟩ (.slice none 0 0) c2
    clear HUB HUZ HU2 HO2
    go_wp2_with fail
    refine bodyPost_ret (v := .tuple #[.agg #[.slice none 0 0], .bool false]) (by simp [results, Tryz.results5, go_sem, k6]) rfl ⟨_, by rw [HE.out.1], ?_, HB6.out⟩
    rw [HE.out.2]; exact World.ownsRow_nil _ _ _ _
  | true =>
    go_wp2_with fail
    refine (HO2.out w1 HB1.out).mono ?_
    rintro e w2 ⟨rfl, b2⟩
    have HB2 := hid (keepS HB1.out b2)
    have z2 := b2.size
    have d0 := (b2.cell (p := ⟨w.heap.size, 0, none⟩) (show w.heap.size < w1.heap.size by omega)).trans c0
    have d1 := (b2.cell (p := ⟨w.heap.size + 1, 0, none⟩) (show w.heap.size + 1 < w1.heap.size by omega)).trans c1
    have d2 := (b2.cell (p := ⟨w.heap.size + 1 + 1, 0, none⟩) (show w.heap.size + 1 + 1 < w1.heap.size by omega)).trans c2
    have k2 := ((bcell b2).2 (w.heap.size + 1 + 1) 0 (by omega)).trans f2
    clear b2 c0 c1 c2 f2 HB1 HO2
    cases q2 with
    | false =>
      have HE : Hid (ub = false ∧ uz = []) := hid ⟨HUB.out, HUZ.out⟩
      have HB6 : Hid (Below w.heap.size w (w2.setCell ⟨w.heap.size + 1 + 1, 0, none⟩ (.slice none 0 0))) := hid (HB2.out.setCell (p := ⟨w.heap.size + 1 + 1, 0, none⟩) (by show w.heap.size ≤ w.heap.size + 1 + 1; omega) _)
      have k6 := World.cell?_setCell_same w2 ⟨w.heap.size + 1 + 1, 0, none⟩ (.slice none 0 0) d2
      clear HUB HUZ HU2
      go_wp2_with fail
      refine bodyPost_ret (v := .tuple #[.agg #[.slice none 0 0], .bool false]) (by simp [results, Tryz.results5, go_sem, k6]) rfl ⟨_, by rw [HE.out.1], ?_, HB6.out⟩
      rw [HE.out.2]; exact World.ownsRow_nil _ _ _ _
    | true =>
      have HC := hid (HU2.out w2 HB2.out (by simp) (by simp))
      clear HU2
      go_wp2_with fail
      refine HC.out.mono ?_
      rintro e w3 ⟨v3, rfl, hf3, b3⟩
      obtain ⟨y, m, cv, rfl⟩ := row_form hf3
      have hm : m = ul.length := by
        rcases hf3.2 with ⟨e, e0⟩ | ⟨g, cap, cur, e, _⟩
        · injection e with e1 e2 e3; omega
        · injection e with e1 e2 e3
      subst hm
      obtain ⟨W4, hW4⟩ : ∃ W4, w3.alloc (.cells #[.slice y ul.length cv] 25) = W4 := ⟨_, rfl⟩
      have b4 : Below w3.heap.size w3 W4 := by rw [← hW4]; exact (Below.refl _ _).alloc (Nat.le_refl _) _
      have b34 := keepS b3 b4
      have z3 := b3.size
      have t4 : W4.cell? ⟨w3.heap.size, 0, none⟩ = some (.slice y ul.length cv) := by rw [← hW4]; simp
      have d4 := (b34.cell (p := ⟨w.heap.size + 1 + 1, 0, none⟩) (show w.heap.size + 1 + 1 < w2.heap.size by omega)).trans d2
      have k4 := ((bcell b34).2 (w.heap.size + 1 + 1) 0 (by omega)).trans k2
      have HB4 := hid (keepS HB2.out b34)
      have HF4 : Hid (FR W4 w2.heap.size (.slice y ul.length cv) ul) := hid (row_below hf3 b4)
      clear b3 b4 b34 hf3 d0 d1 d2 k2 HC HB2
      by_cases hlen : ul.length ≤ 1000
      · have t1 : decide (1000 < ul.length) = false := by simp; omega
        have HE : Hid (ub = true ∧ uz = ul) := by
          refine hid ⟨?_, ?_⟩
          · rw [HUB.out]; simp; exact hlen
          · rw [HUZ.out]; simp; intro h; omega
        have HB6 : Hid (Below w.heap.size w (W4.setCell ⟨w.heap.size + 1 + 1, 0, none⟩ (.slice y ul.length cv))) := hid (HB4.out.setCell (p := ⟨w.heap.size + 1 + 1, 0, none⟩) (by show w.heap.size ≤ w.heap.size + 1 + 1; omega) _)
        have HF6 : Hid (FR (W4.setCell ⟨w.heap.size + 1 + 1, 0, none⟩ (.slice y ul.length cv)) w.heap.size (.slice y ul.length cv) ul) := by
          refine hid ?_
          refine World.ownsRow.kept (HF4.out.weak (by omega)) (grownSet W4 ⟨w.heap.size + 1 + 1, 0, none⟩ _) ?_
          cases e : (Value.slice y ul.length cv).ownBlock with
          | none => exact .inl rfl
          | some g => exact .inr (fun e2 => by have := (World.ownsRow.lt HF4.out g e).1; injection e2 with e2; have e2 : g = w.heap.size + 1 + 1 := e2; omega)
        have k6 := World.cell?_setCell_same W4 ⟨w.heap.size + 1 + 1, 0, none⟩ (.slice y ul.length cv) d4
        clear HUB HUZ
        go_wp2_with fail
        try rw [hW4]
        refine bodyPost_ret (v := .tuple #[.agg #[.slice y ul.length cv], .bool true]) (by simp [results, Tryz.results5, go_sem, k6]) rfl ⟨_, by rw [HE.out.1], ?_, HB6.out⟩
        rw [HE.out.2]; exact HF6.out
      · have t1 : decide (1000 < ul.length) = true := by simp; omega
        have HE : Hid (ub = false ∧ uz = []) := by
          refine hid ⟨?_, ?_⟩
          · rw [HUB.out]; simp; omega
          · rw [HUZ.out]; simp; intro h; omega
        have HB6 : Hid (Below w.heap.size w (W4.setCell ⟨w.heap.size + 1 + 1, 0, none⟩ (.slice none 0 0))) := hid (HB4.out.setCell (p := ⟨w.heap.size + 1 + 1, 0, none⟩) (by show w.heap.size ≤ w.heap.size + 1 + 1; omega) _)
        have k6 := World.cell?_setCell_same W4 ⟨w.heap.size + 1 + 1, 0, none⟩ (.slice none 0 0) d4
        clear HUB HUZ
        go_wp2_with fail
        try rw [hW4]
        refine bodyPost_ret (v := .tuple #[.agg #[.slice none 0 0], .bool false]) (by simp [results, Tryz.results5, go_sem, k6]) rfl ⟨_, by rw [HE.out.1], ?_, HB6.out⟩
        rw [HE.out.2]; exact World.ownsRow_nil _ _ _ _
end Go.Proofs.YtbimcammjohaoadGreatDoor
