import Derived.Test.YtbimcammjohaoacUnm4
namespace Go.Proofs.Ytbimcammjohaoac
open Go.ChangeShapes Go.WideShapes Go.ChangeAt Go.RowKit Go.Maps Go.Sort
set_option linter.unusedVariables false
set_option linter.unusedSimpArgs false

theorem GrpAt.size_le {w : World} {bm n : Nat} {D : DataW Value} {G : Int → Value} {L : Int → List (Int × Int)} (h : GrpAt w bm n D G L) : Maps.size D ≤ n := h.own.size_le

def unL (R F T : Nat → Int) (n : Nat) (R' F' T' : Nat → Int) (n' : Nat) : List Rn := unF (flat R F T n) (flat R' F' T' n')
def unB (R F T : Nat → Int) (n : Nat) (R' F' T' : Nat → Int) (n' : Nat) : Bool := ctxB R F T n && ctxB R' F' T' n' && decide ((unL R F T n R' F' T' n').length ≤ 1000)

set_option maxRecDepth 100000 in
set_option maxHeartbeats 2000000 in
theorem implUnY (a : Option Addr) (n c : Nat) (R F T : Nat → Int) (a' : Option Addr) (n' c' : Nat) (R' F' T' : Nat → Int) (w : World) (hn : n ≤ 1048576) (hn' : n' ≤ 1048576) (h : RSeg w a n R F T) (h' : RSeg w a' n' R' F' T') (hok : ctxB R F T n = true) (hok' : ctxB R' F' T' n' = true) :
    Calls Try.prog 19 #[.agg #[.slice a n c], .agg #[.slice a' n' c']] w fun e w' => ∃ v b, e = .returned (.tuple #[.agg #[v], .bool b]) ∧ b = decide ((unL R F T n R' F' T' n').length ≤ 1000) ∧ FR w' w.heap.size v (if b then unL R F T n R' F' T' n' else []) ∧ Below w.heap.size w w' := by
  have ho := ctxB_iff.1 hok
  have ho' := ctxB_iff.1 hok'
  obtain ⟨ul, hul⟩ : ∃ ul, unL R F T n R' F' T' n' = ul := ⟨_, rfl⟩
  rw [hul]
  obtain ⟨W0, hW0⟩ : ∃ W0, ((w.alloc (.cells #[.slice a n c] 41)).alloc (.cells #[.slice a' n' c'] 41)).alloc (.cells #[.slice none 0 0] 41) = W0 := ⟨_, rfl⟩
  obtain ⟨Wa, hWa⟩ : ∃ Wa, (w.alloc (.cells #[.slice a n c] 41)).alloc (.cells #[.slice a' n' c'] 41) = Wa := ⟨_, rfl⟩
  have za : Wa.heap.size = w.heap.size + 2 := by rw [← hWa]; simp
  have bWa : Below w.heap.size w Wa := by rw [← hWa]; exact below2 _ _ _
  have xa0 : Wa.cell? ⟨w.heap.size, 0, none⟩ = some (.slice a n c) := by rw [← hWa]; simp
  have xa1 : Wa.cell? ⟨w.heap.size + 1, 0, none⟩ = some (.slice a' n' c') := by rw [← hWa]; simp
  have hW0' : Wa.alloc (.cells #[.slice none 0 0] 41) = W0 := by rw [← hWa]; exact hW0
  have bW0 : Below Wa.heap.size Wa W0 := by rw [← hW0']; exact (Below.refl _ _).alloc (Nat.le_refl _) _
  have HB0 : Hid (Below w.heap.size w W0) := hid (keepS bWa bW0)
  have z0 : W0.heap.size = w.heap.size + 3 := by rw [← hW0']; simp; omega
  have x0 : W0.cell? ⟨w.heap.size, 0, none⟩ = some (.slice a n c) := (bW0.cell (p := ⟨w.heap.size, 0, none⟩) (show w.heap.size < Wa.heap.size by omega)).trans xa0
  have x1 : W0.cell? ⟨w.heap.size + 1, 0, none⟩ = some (.slice a' n' c') := (bW0.cell (p := ⟨w.heap.size + 1, 0, none⟩) (show w.heap.size + 1 < Wa.heap.size by omega)).trans xa1
  have x2 : W0.cell? ⟨w.heap.size + 1 + 1, 0, none⟩ = some (.slice none 0 0) := by rw [← hW0', show w.heap.size + 1 + 1 = Wa.heap.size from by omega]; simp
  have y2 : W0.frozen? ⟨w.heap.size + 1 + 1, 0, none⟩ = false := by rw [← hW0', show w.heap.size + 1 + 1 = Wa.heap.size from by omega]; simp
  clear hWa xa0 xa1 hW0' bW0 bWa
  have HUN := hid (fun (L : Int → List (Int × Int)) (hS : ∀ r, Srt (L r)) (hI : ∀ r x, In (L r) x ↔ (In (Lk R F T n r) x ∨ In (Lk R' F' T' n' r) x)) => (union_eq ho.1 ho'.1 hS hI).symm.trans hul)
  have HSA := hid (fun r => (Lk_srt n ho.1 r).1)
  have HSB := hid (fun r => (Lk_srt n' ho'.1 r).1)
  have HRA := hid (Lk_rep n ho.1)
  have HRB := hid (Lk_rep n' ho'.1)
  have hn1 := ho.2
  have hn1' := ho'.2
  have HH := hid h
  have HH' := hid h'
  have HOC := hid (openC a n c R F T W0 hn (h.below HB0.out) hok)
  clear hul ho ho' h h'
  go_enter Try.func19, Try.ntmps19
  go_wp2_with fail
  try rw [hW0]
  clear hW0
  refine HOC.out.mono ?_
  rintro e w1 ⟨ba, Da, Ga, rfl, ga, hba, b1⟩
  have HB1 := hid (keepS HB0.out b1)
  have HGA := hid ga
  have z1 := b1.size
  have c0 := (b1.cell (p := ⟨w.heap.size + 1, 0, none⟩) (show w.heap.size + 1 < W0.heap.size by omega)).trans x1
  have c2 := (b1.cell (p := ⟨w.heap.size + 1 + 1, 0, none⟩) (show w.heap.size + 1 + 1 < W0.heap.size by omega)).trans x2
  have f2 := ((bcell b1).2 (w.heap.size + 1 + 1) 0 (by omega)).trans y2
  have HOC' := hid (openC a' n' c' R' F' T' w1 hn' (HH'.out.below HB1.out) hok')
  clear b1 ga x0 x1 x2 y2 HOC HB0 hok hok'
  go_wp2_with fail
  refine HOC'.out.mono ?_
  rintro e w2 ⟨bb, Db, Gb, rfl, gb, hbb, b2⟩
  have HB2 := hid (keepS HB1.out b2)
  have z2 := b2.size
  have d2 := (b2.cell (p := ⟨w.heap.size + 1 + 1, 0, none⟩) (show w.heap.size + 1 + 1 < w1.heap.size by omega)).trans c2
  have k2 := ((bcell b2).2 (w.heap.size + 1 + 1) 0 (by omega)).trans f2
  have HUM := hid (unionM (HGA.out.below b2) gb HSA.out HSB.out (fun r => Nat.le_trans (Lk_len R F T n r) hn1) (fun r => Nat.le_trans (Lk_len R' F' T' n' r) hn1') (Nat.le_trans HGA.out.size_le hn1) (Nat.le_trans gb.size_le hn1'))
  clear b2 gb c0 c2 f2 HOC' HB1 HGA
  go_wp2_with fail
  refine HUM.out.mono ?_
  rintro e w3 ⟨bd, nd, D, G, L, rfl, hnd, hgr, hui, b3⟩
  have HEQ := hid (HUN.out L hui.s (fun r x => hui.done r rfl x))
  have HRL : Hid (∀ r, L r ≠ [] → 0 ≤ r ∧ r < 8) := hid fun r hr => by
    obtain ⟨x, hx⟩ := (hui.s r).inh hr
    rcases (hui.done r rfl x).1 hx with h | h
    · exact HRA.out r (In_ne h)
    · exact HRB.out r (In_ne h)
  have HLL : Hid (∀ r, (L r).length ≤ 2000) := hid fun r => by
    have h1 := hui.len r
    have h2 := Lk_len R F T n r
    have h3 := Lk_len R' F' T' n' r
    omega
  have HB3 := hid (keepS HB2.out b3)
  have z3 := b3.size
  have d3 := (b3.cell (p := ⟨w.heap.size + 1 + 1, 0, none⟩) (show w.heap.size + 1 + 1 < w2.heap.size by omega)).trans d2
  have k3 := ((bcell b3).2 (w.heap.size + 1 + 1) 0 (by omega)).trans k2
  have HG3 := hid hgr
  have HCN := hid (countM hgr HRL.out HLL.out)
  clear b3 hgr hui HUM d2 k2 HB2 HUN
  rw [HEQ.out] at HCN
  go_wp2_with fail
  refine HCN.out.mono ?_
  rintro e w4 ⟨rfl, b4⟩
  have HB4 := hid (keepS HB3.out b4)
  have z4 := b4.size
  have d4 := (b4.cell (p := ⟨w.heap.size + 1 + 1, 0, none⟩) (show w.heap.size + 1 + 1 < w3.heap.size by omega)).trans d3
  have k4 := ((bcell b4).2 (w.heap.size + 1 + 1) 0 (by omega)).trans k3
  have HCX := hid (contextM (HG3.out.below b4) HRL.out HLL.out)
  rw [HEQ.out] at HCX
  clear b4 d3 k3 HCN HG3 HB3
  by_cases hlen : ul.length ≤ 1000
  · have t1 : decide (1000 < ul.length) = false := by simp; omega
    have HD : Hid (decide (ul.length ≤ 1000) = true) := hid (by simp; exact hlen)
    go_wp2_with fail
    refine HCX.out.mono ?_
    rintro e w5 ⟨v, rfl, hfr, b5⟩
    obtain ⟨y, m, cc, rfl⟩ := row_form hfr
    have d5 := (b5.cell (p := ⟨w.heap.size + 1 + 1, 0, none⟩) (show w.heap.size + 1 + 1 < w4.heap.size by omega)).trans d4
    have k5 := ((bcell b5).2 (w.heap.size + 1 + 1) 0 (by omega)).trans k4
    have HB6 : Hid (Below w.heap.size w (w5.setCell ⟨w.heap.size + 1 + 1, 0, none⟩ (.slice y m cc))) := hid ((keepS HB4.out b5).setCell (p := ⟨w.heap.size + 1 + 1, 0, none⟩) (by show w.heap.size ≤ w.heap.size + 1 + 1; omega) _)
    have HF6 : Hid (FR (w5.setCell ⟨w.heap.size + 1 + 1, 0, none⟩ (.slice y m cc)) w.heap.size (.slice y m cc) ul) := by
      refine hid ?_
      have h1 : FR w5 w.heap.size (.slice y m cc) ul := by
        obtain ⟨q1, q2⟩ := hfr
        refine ⟨q1, q2.imp id ?_⟩
        rintro ⟨g, cap, cur, e, hg, r⟩
        exact ⟨g, cap, cur, e, by omega, r⟩
      refine World.ownsRow.kept h1 (grownSet w5 ⟨w.heap.size + 1 + 1, 0, none⟩ _) ?_
      cases e : (Value.slice y m cc).ownBlock with
      | none => exact .inl rfl
      | some g => exact .inr (fun e2 => by have := (World.ownsRow.lt hfr g e).1; injection e2 with e2; have e2 : g = w.heap.size + 1 + 1 := e2; omega)
    have k6 := World.cell?_setCell_same w5 ⟨w.heap.size + 1 + 1, 0, none⟩ (.slice y m cc) d5
    clear hfr b5 d4 k4
    go_wp2_with fail
    refine bodyPost_ret (v := .tuple #[.agg #[.slice y m cc], .bool true]) (by simp [results, Try.results19, go_sem, k6]) rfl ⟨_, true, rfl, HD.out.symm, ?_, HB6.out⟩
    exact HF6.out
  · have t1 : decide (1000 < ul.length) = true := by simp; omega
    have HD : Hid (decide (ul.length ≤ 1000) = false) := hid (by simp; omega)
    have HB6 : Hid (Below w.heap.size w (w4.setCell ⟨w.heap.size + 1 + 1, 0, none⟩ (.slice none 0 0))) := hid (HB4.out.setCell (p := ⟨w.heap.size + 1 + 1, 0, none⟩) (by show w.heap.size ≤ w.heap.size + 1 + 1; omega) _)
    have k6 := World.cell?_setCell_same w4 ⟨w.heap.size + 1 + 1, 0, none⟩ (.slice none 0 0) d4
    go_wp2_with fail
    refine bodyPost_ret (v := .tuple #[.agg #[.slice none 0 0], .bool false]) (by simp [results, Try.results19, go_sem, k6]) rfl ⟨_, false, rfl, HD.out.symm, ?_, HB6.out⟩
    exact World.ownsRow_nil _ _ _ _

theorem implOpen (a : Option Addr) (n c : Nat) (R F T : Nat → Int) (w : World) (hn : n ≤ 1048576) (h : RSeg w a n R F T) :
    Calls Try.prog 40 #[.agg #[.slice a n c]] w fun e w' => ∃ mb, e = .returned (.tuple #[.map mb, .bool (ctxB R F T n)]) ∧ Below w.heap.size w w' := by
  by_cases hok : ctxB R F T n = true
  · rw [hok]
    refine (openC a n c R F T w hn h hok).mono ?_
    rintro e w1 ⟨ba, Da, Ga, rfl, ga, hba, b1⟩
    exact ⟨_, rfl, b1⟩
  · have hok : ctxB R F T n = false := by simpa using hok
    rw [hok]
    refine (openC_no a n c R F T w hn h hok).mono ?_
    rintro e w1 ⟨rfl, b1⟩
    exact ⟨_, rfl, b1⟩

set_option maxRecDepth 100000 in
set_option maxHeartbeats 2000000 in
theorem implUnN (a : Option Addr) (n c : Nat) (R F T : Nat → Int) (a' : Option Addr) (n' c' : Nat) (R' F' T' : Nat → Int) (w : World) (hn : n ≤ 1048576) (hn' : n' ≤ 1048576) (h : RSeg w a n R F T) (h' : RSeg w a' n' R' F' T') (hok : (ctxB R F T n && ctxB R' F' T' n') = false) :
    Calls Try.prog 19 #[.agg #[.slice a n c], .agg #[.slice a' n' c']] w fun e w' => e = .returned (.tuple #[.agg #[.slice none 0 0], .bool false]) ∧ Below w.heap.size w w' := by
  obtain ⟨W0, hW0⟩ : ∃ W0, ((w.alloc (.cells #[.slice a n c] 41)).alloc (.cells #[.slice a' n' c'] 41)).alloc (.cells #[.slice none 0 0] 41) = W0 := ⟨_, rfl⟩
  obtain ⟨Wa, hWa⟩ : ∃ Wa, (w.alloc (.cells #[.slice a n c] 41)).alloc (.cells #[.slice a' n' c'] 41) = Wa := ⟨_, rfl⟩
  have za : Wa.heap.size = w.heap.size + 2 := by rw [← hWa]; simp
  have bWa : Below w.heap.size w Wa := by rw [← hWa]; exact below2 _ _ _
  have xa0 : Wa.cell? ⟨w.heap.size, 0, none⟩ = some (.slice a n c) := by rw [← hWa]; simp
  have xa1 : Wa.cell? ⟨w.heap.size + 1, 0, none⟩ = some (.slice a' n' c') := by rw [← hWa]; simp
  have hW0' : Wa.alloc (.cells #[.slice none 0 0] 41) = W0 := by rw [← hWa]; exact hW0
  have bW0 : Below Wa.heap.size Wa W0 := by rw [← hW0']; exact (Below.refl _ _).alloc (Nat.le_refl _) _
  have HB0 : Hid (Below w.heap.size w W0) := hid (keepS bWa bW0)
  have z0 : W0.heap.size = w.heap.size + 3 := by rw [← hW0']; simp; omega
  have x0 : W0.cell? ⟨w.heap.size, 0, none⟩ = some (.slice a n c) := (bW0.cell (p := ⟨w.heap.size, 0, none⟩) (show w.heap.size < Wa.heap.size by omega)).trans xa0
  have x1 : W0.cell? ⟨w.heap.size + 1, 0, none⟩ = some (.slice a' n' c') := (bW0.cell (p := ⟨w.heap.size + 1, 0, none⟩) (show w.heap.size + 1 < Wa.heap.size by omega)).trans xa1
  have x2 : W0.cell? ⟨w.heap.size + 1 + 1, 0, none⟩ = some (.slice none 0 0) := by rw [← hW0', show w.heap.size + 1 + 1 = Wa.heap.size from by omega]; simp
  have y2 : W0.frozen? ⟨w.heap.size + 1 + 1, 0, none⟩ = false := by rw [← hW0', show w.heap.size + 1 + 1 = Wa.heap.size from by omega]; simp
  clear hWa xa0 xa1 hW0' bW0 bWa
  have HOC := hid (implOpen a n c R F T W0 hn (h.below HB0.out))
  have HH' := hid h'
  clear h h'
  go_enter Try.func19, Try.ntmps19
  go_wp2_with fail
  try rw [hW0]
  clear hW0
  refine HOC.out.mono ?_
  rintro e w1 ⟨mb, rfl, b1⟩
  have HB1 := hid (keepS HB0.out b1)
  have z1 := b1.size
  have c0 := (b1.cell (p := ⟨w.heap.size + 1, 0, none⟩) (show w.heap.size + 1 < W0.heap.size by omega)).trans x1
  have c2 := (b1.cell (p := ⟨w.heap.size + 1 + 1, 0, none⟩) (show w.heap.size + 1 + 1 < W0.heap.size by omega)).trans x2
  have f2 := ((bcell b1).2 (w.heap.size + 1 + 1) 0 (by omega)).trans y2
  have HOC' := hid (implOpen a' n' c' R' F' T' w1 hn' (HH'.out.below HB1.out))
  clear b1 x0 x1 x2 y2 HOC HB0
  go_wp2_with fail
  refine HOC'.out.mono ?_
  rintro e w2 ⟨mb', rfl, b2⟩
  have HB2 := hid (keepS HB1.out b2)
  have z2 := b2.size
  have d2 := (b2.cell (p := ⟨w.heap.size + 1 + 1, 0, none⟩) (show w.heap.size + 1 + 1 < w1.heap.size by omega)).trans c2
  have k2 := ((bcell b2).2 (w.heap.size + 1 + 1) 0 (by omega)).trans f2
  have HB6 : Hid (Below w.heap.size w (w2.setCell ⟨w.heap.size + 1 + 1, 0, none⟩ (.slice none 0 0))) := hid (HB2.out.setCell (p := ⟨w.heap.size + 1 + 1, 0, none⟩) (by show w.heap.size ≤ w.heap.size + 1 + 1; omega) _)
  have k6 := World.cell?_setCell_same w2 ⟨w.heap.size + 1 + 1, 0, none⟩ (.slice none 0 0) d2
  clear b2 c0 c2 f2 HOC' HB1
  generalize ctxB R F T n = q1 at *
  generalize ctxB R' F' T' n' = q2 at *
  cases q1 with
  | false =>
    go_wp2_with fail
    refine bodyPost_ret (v := .tuple #[.agg #[.slice none 0 0], .bool false]) (by simp [results, Try.results19, go_sem, k6]) rfl ⟨rfl, HB6.out⟩
  | true =>
    cases q2 with
    | true => cases hok
    | false =>
      go_wp2_with fail
      refine bodyPost_ret (v := .tuple #[.agg #[.slice none 0 0], .bool false]) (by simp [results, Try.results19, go_sem, k6]) rfl ⟨rfl, HB6.out⟩

def unZ (R F T : Nat → Int) (n : Nat) (R' F' T' : Nat → Int) (n' : Nat) : List Rn := if unB R F T n R' F' T' n' then unL R F T n R' F' T' n' else []

theorem implUn (a : Option Addr) (n c : Nat) (R F T : Nat → Int) (a' : Option Addr) (n' c' : Nat) (R' F' T' : Nat → Int) (w : World) (hn : n ≤ 1048576) (hn' : n' ≤ 1048576) (h : RSeg w a n R F T) (h' : RSeg w a' n' R' F' T') :
    Calls Try.prog 19 #[.agg #[.slice a n c], .agg #[.slice a' n' c']] w fun e w' => ∃ v, e = .returned (.tuple #[.agg #[v], .bool (unB R F T n R' F' T' n')]) ∧ FR w' w.heap.size v (unZ R F T n R' F' T' n') ∧ Below w.heap.size w w' := by
  by_cases hok : (ctxB R F T n && ctxB R' F' T' n') = true
  · have h1 := (Bool.and_eq_true_iff.1 hok)
    refine (implUnY a n c R F T a' n' c' R' F' T' w hn hn' h h' h1.1 h1.2).mono ?_
    rintro e w1 ⟨v, b, rfl, hb, hf, hbel⟩
    have e1 : unB R F T n R' F' T' n' = b := by unfold unB; rw [hok, hb]; rfl
    exact ⟨v, by rw [e1], by unfold unZ; rw [e1]; exact hf, hbel⟩
  · have hok : (ctxB R F T n && ctxB R' F' T' n') = false := by simpa using hok
    refine (implUnN a n c R F T a' n' c' R' F' T' w hn hn' h h' hok).mono ?_
    rintro e w1 ⟨rfl, hbel⟩
    have e1 : unB R F T n R' F' T' n' = false := by unfold unB; rw [hok]; rfl
    exact ⟨_, by rw [e1], by unfold unZ; rw [e1]; exact World.ownsRow_nil _ _ _ _, hbel⟩
end Go.Proofs.Ytbimcammjohaoac
