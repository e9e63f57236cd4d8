import Derived.Test.YthoilicolakofaaDoorFq
namespace Go.Proofs.YthoilicolakofaaDoor
open Go.ChangeShapes Go.WideShapes Go.ChangeAt Go.RowKit
set_option linter.unusedVariables false
set_option linter.unusedSimpArgs false

structure FxR (w : World) (B : Nat) (v : Value) (l : List Fx) : Prop where
  row : w.ownsRow B 40 2 v l.length (fxCells l)
  pay : ∀ i, i < l.length → Own w B (gFx l i).2.1 (gFx l i).2.2
  far : ∀ i, i < l.length → ∀ b, (gFx l i).2.1.ownBlock = some b → v.ownBlock ≠ some b
  dis : ∀ i j, i < l.length → j < l.length → i ≠ j → ∀ b, (gFx l i).2.1.ownBlock = some b → (gFx l j).2.1.ownBlock ≠ some b

theorem fxCells_get : ∀ (l : List Fx) (i : Nat), i < l.length → (fxCells l)[i * 2]? = some (.int .i64 (gFx l i).1) ∧ (fxCells l)[i * 2 + 1]? = some (gFx l i).2.1 := by
  intro l
  induction l with
  | nil => intro i hi; simp at hi
  | cons a l ih =>
    intro i hi
    cases i with
    | zero => simp [fxCells, gFx]
    | succ i =>
      have := ih i (by simpa using hi)
      have e : fxCells (a :: l) = .int .i64 a.1 :: a.2.1 :: fxCells l := by simp [fxCells]
      rw [e, show (i + 1) * 2 = i * 2 + 1 + 1 from by omega]
      simpa [gFx] using this
theorem FxR.fxs {w : World} {B : Nat} {v : Value} {l : List Fx} (h : FxR w B v l) : ∃ a c, v = .slice a l.length c ∧ FxS w a l := by
  rcases h.row.2 with ⟨e, e0⟩ | ⟨g, cap, cur, e, hb, _⟩
  · exact ⟨none, 0, by rw [e, e0], .inl e0⟩
  · refine ⟨_, cap, e, .inr ⟨g, 0, rfl, (World.ownsRow.lt h.row g (by rw [e]; rfl)).2, fun i hi => ?_⟩⟩
    have h1 := h.row
    rw [e] at h1
    obtain ⟨pa, pc, e1, s1⟩ := (h.pay i hi).any
    rw [Nat.zero_add]
    refine ⟨?_, ?_, pa, pc, e1, s1⟩
    · rw [h1.cellAt _ (by omega)]; exact (fxCells_get l i hi).1
    · rw [h1.cellAt _ (by omega)]; exact (fxCells_get l i hi).2
theorem seg_keep {w w' : World} {pa : Option Addr} {n cap : Nat} {f : Nat → Int} (h : Seg w pa n f) (hs : w.heap.size ≤ w'.heap.size) (hk : ∀ b, (Value.slice pa n cap).ownBlock = some b → w'.heap[b]? = w.heap[b]?) : Seg w' pa n f := by
  rcases h with h | ⟨b, off, rfl, hb, hc⟩
  · exact .inl h
  · exact .inr ⟨b, off, rfl, Nat.lt_of_lt_of_le hb hs, fun i hi => (World.cell?_of_block (a := ⟨b, off + i, none⟩) (hk b rfl)).trans (hc i hi)⟩

theorem markOwn2 {w : World} {B : Nat} {v : Value} {zs : List Int} (h : Own w B v zs) (hl : zs.length ≤ 1000000000) (k0 : Nat) (hk0 : k0 ≤ 1000000000) :
    Calls Tryd.prog 13 #[v, .int .i64 (k0 : Int)] w fun e w' => e = .returned (.int .i64 ((k0 + zs.length : Nat) : Int)) ∧ Below B w w' ∧ w'.heap.size = w.heap.size ∧ (∀ b, v.ownBlock ≠ Option.some b → w'.heap[b]? = w.heap[b]?) ∧ (∃ a cap, v = .slice a zs.length cap ∧ Seg w' a zs.length (mk8 k0)) := by
  by_cases hz : zs = []
  · subst hz
    obtain ⟨a, cap, rfl, s⟩ := h.any
    refine (markB0 a cap k0 w).mono ?_
    rintro e w' ⟨rfl, rfl⟩
    exact ⟨by simp, Below.refl _ _, rfl, fun _ _ => rfl, a, cap, rfl, .inl rfl⟩
  · obtain ⟨g, cap, rfl, _, _, _, _, _, s⟩ := h.shape hz
    refine (markB B g zs.length cap k0 _ w (by omega) (by omega) h).mono ?_
    rintro e w' ⟨rfl, b, z, s, o⟩
    exact ⟨rfl, b, z, fun b hb => o b (fun e => hb (by rw [e]; rfl)), _, cap, rfl, s⟩

structure MkI (w wr : World) (B g n cap : Nat) (l : List Fx) (P : Nat → Nat) (j : Nat) : Prop where
  bel : Below B w wr
  sz : wr.heap.size = w.heap.size
  oth : ∀ b, b ≠ g → (∀ i, i < n → (gFx l i).2.1.ownBlock ≠ some b) → wr.heap[b]? = w.heap[b]?
  row : ∃ xs : List Value, wr.ownsRow B 40 2 (.slice (some ⟨g, 0, none⟩) n cap) n xs ∧ (∀ i, i < n → xs[i * 2 + 1]? = some (gFx l i).2.1) ∧ (∀ i, i < j → xs[i * 2]? = some (.int .i64 (P i : Nat)))
  done : ∀ i, i < j → ∃ pa pc, (gFx l i).2.1 = .slice pa (gFx l i).2.2.length pc ∧ Seg wr pa (gFx l i).2.2.length (mk8 (P i + 1))
  left : ∀ i, j ≤ i → i < n → Own wr B (gFx l i).2.1 (gFx l i).2.2

theorem MkI.kind {w wr : World} {B g n cap : Nat} {l : List Fx} {P : Nat → Nat} {j : Nat} (h : MkI w wr B g n cap l P j) (hj : j < n) (hfar : ∀ i, i < n → ∀ b, (gFx l i).2.1.ownBlock = some b → b ≠ g) :
    (wr.setCell ⟨g, j * 2, none⟩ (.int .i64 (P j : Nat))).heap.size = w.heap.size ∧ Below B w (wr.setCell ⟨g, j * 2, none⟩ (.int .i64 (P j : Nat)))
    ∧ (∀ b, b ≠ g → (wr.setCell ⟨g, j * 2, none⟩ (.int .i64 (P j : Nat))).heap[b]? = wr.heap[b]?)
    ∧ (∃ xs : List Value, (wr.setCell ⟨g, j * 2, none⟩ (.int .i64 (P j : Nat))).ownsRow B 40 2 (.slice (some ⟨g, 0, none⟩) n cap) n xs ∧ (∀ i, i < n → xs[i * 2 + 1]? = some (gFx l i).2.1) ∧ (∀ i, i < j + 1 → xs[i * 2]? = some (.int .i64 (P i : Nat))))
    ∧ Own (wr.setCell ⟨g, j * 2, none⟩ (.int .i64 (P j : Nat))) B (gFx l j).2.1 (gFx l j).2.2 := by
  obtain ⟨xs, ho, hp, hk⟩ := h.row
  refine ⟨by rw [← h.sz]; simp [World.setCell], h.bel.setCell (p := ⟨g, j * 2, none⟩) (ho.lt g rfl).1 _, fun b hb => Below.heap_setCell _ _ _ _ hb, ⟨_, (ho.stored (j * 2) (.int .i64 (P j : Nat))).1, fun i hi => ?_, fun i hi => ?_⟩, ?_⟩
  · rw [List.getElem?_set_ne (by omega)]; exact hp i hi
  · by_cases e : j = i
    · subst e
      have := ho.1
      rw [List.getElem?_set_self (by omega)]
    · rw [List.getElem?_set_ne (by omega)]; exact hk i (by omega)
  · exact (h.left j (Nat.le_refl _) hj).gr (row := some g) ⟨rfl, rfl, rfl, by simp [World.setCell], fun k hk hne => Below.heap_setCell _ _ _ _ (fun e => hne (by rw [e]))⟩ (fun b hb e => by injection e with e; exact hfar j hj b hb e)
theorem MkI.next {w wr w1 w2 : World} {B g n cap : Nat} {l : List Fx} {P : Nat → Nat} {j : Nat} (h : MkI w wr B g n cap l P j) (hj : j < n)
    (hfar : ∀ i, i < n → ∀ b, (gFx l i).2.1.ownBlock = some b → b ≠ g) (hdis : ∀ i j, i < n → j < n → i ≠ j → ∀ b, (gFx l i).2.1.ownBlock = some b → (gFx l j).2.1.ownBlock ≠ some b)
    (z1 : w1.heap.size = w.heap.size) (b1 : Below B w w1) (o1 : ∀ b, b ≠ g → w1.heap[b]? = wr.heap[b]?)
    (r1 : ∃ xs : List Value, w1.ownsRow B 40 2 (.slice (some ⟨g, 0, none⟩) n cap) n xs ∧ (∀ i, i < n → xs[i * 2 + 1]? = some (gFx l i).2.1) ∧ (∀ i, i < j + 1 → xs[i * 2]? = some (.int .i64 (P i : Nat))))
    (b2 : Below B w1 w2) (z2 : w2.heap.size = w1.heap.size) (o2 : ∀ b, (gFx l j).2.1.ownBlock ≠ some b → w2.heap[b]? = w1.heap[b]?)
    (s2 : ∃ pa pc, (gFx l j).2.1 = .slice pa (gFx l j).2.2.length pc ∧ Seg w2 pa (gFx l j).2.2.length (mk8 (P j + 1))) : MkI w w2 B g n cap l P (j + 1) := by
  have key : ∀ i, i < n → i ≠ j → ∀ b, (gFx l i).2.1.ownBlock = some b → w2.heap[b]? = wr.heap[b]? := fun i hi hne b hb =>
    (o2 b (hdis i j hi hj hne b hb)).trans (o1 b (hfar i hi b hb))
  refine ⟨b1.trans b2, by rw [z2, z1], fun b hb ha => ?_, ?_, fun i hi => ?_, fun i hi hin => ?_⟩
  · rw [o2 b (ha j hj), o1 b hb, h.oth b hb ha]
  · obtain ⟨xs, q1, q2, q3⟩ := r1
    refine ⟨xs, World.ownsRow.kept (row := (gFx l j).2.1.ownBlock) q1 ⟨b2.os, b2.tape, b2.output, b2.size, fun k hk hne => o2 k (fun e => hne e.symm)⟩ (.inr (fun e => ?_)), q2, q3⟩
    exact hfar j hj g (by rw [← e]; rfl) rfl
  · by_cases e : i = j
    · subst e; exact s2
    · obtain ⟨pa, pc, e1, s⟩ := h.done i (by omega)
      refine ⟨pa, pc, e1, seg_keep (cap := pc) s (by rw [z2, z1, h.sz]; exact Nat.le_refl _) (fun b hb => key i (by omega) e b ?_)⟩
      rw [e1]; exact hb
  · have g1 : wr.grownBy w1 (some g) := ⟨b1.os.trans h.bel.os.symm, b1.tape.trans h.bel.tape.symm, b1.output.trans h.bel.output.symm, by rw [z1, h.sz]; exact Nat.le_refl _, fun k hk hne => o1 k (fun e => hne (by rw [e]))⟩
    have g2 : w1.grownBy w2 (gFx l j).2.1.ownBlock := ⟨b2.os, b2.tape, b2.output, b2.size, fun k hk hne => o2 k (fun e => hne e.symm)⟩
    exact ((h.left i (by omega) hin).gr g1 (fun b hb e => by injection e with e; exact hfar i hin b hb e)).gr g2 (fun b hb e => hdis i j hin hj (by omega) b hb e.symm)

set_option maxRecDepth 100000 in
set_option maxHeartbeats 800000 in
theorem markFrameSC {w : World} {B : Nat} {v : Value} {l : List Fx} (h : FxR w B v l) (k0 : Nat) (hl : l.length ≤ 1048576) (hk : mkPos k0 l l.length ≤ 1000000000) :
    Calls Tryd.prog 14 #[v, .int .i64 (k0 : Int)] w fun e w' => e = .returned (.int .i64 (mkPos k0 l l.length : Nat)) ∧ Below B w w' ∧ w'.heap.size = w.heap.size ∧ (∀ b, v.ownBlock ≠ some b → (∀ i, i < l.length → (gFx l i).2.1.ownBlock ≠ some b) → w'.heap[b]? = w.heap[b]?) ∧ ∃ a c, v = .slice a l.length c ∧ FxM w' a l k0 := by
  have hk0 : k0 ≤ 1000000000 := by have := mkPos_le k0 l (Nat.zero_le _); rw [mkPos_zero] at this; omega
  have HM := hid (fun i (hi : i < l.length) => mkPos_succ k0 l i hi)
  have HK := hid (fun i (hi : i ≤ l.length) => Nat.le_trans (mkPos_le k0 l hi) hk)
  have HZ := hid (mkPos_zero k0 l)
  have HX : Hid (∀ a w', FxM w' a l k0 ↔ (l.length = 0 ∨ ∃ g off, a = some ⟨g, off, none⟩ ∧ g < w'.heap.size ∧ ∀ i, i < l.length → w'.cell? ⟨g, off + i * 2, none⟩ = some (.int .i64 (mkPos k0 l i : Nat)) ∧ w'.cell? ⟨g, off + i * 2 + 1, none⟩ = some (gFx l i).2.1 ∧ ∃ pa cap, (gFx l i).2.1 = .slice pa (gFx l i).2.2.length cap ∧ Seg w' pa (gFx l i).2.2.length (mk8 (mkPos k0 l i + 1)))) := hid (fun _ _ => Iff.rfl)
  obtain ⟨P, hP⟩ : ∃ P, mkPos k0 l = P := ⟨_, rfl⟩
  rw [hP] at HM HK HZ HX ⊢
  clear hP hk
  obtain ⟨hrow, hpay, hfar, hdis⟩ := h
  have HFC := hid (fun i (hi : i < l.length) => (fxCells_get l i hi).2)
  obtain ⟨n, hn⟩ : ∃ n, l.length = n := ⟨_, rfl⟩
  rw [hn] at HM HK HX HFC hl hrow hpay hfar hdis ⊢
  clear hn
  rcases hrow.2 with ⟨e, e0⟩ | ⟨g, cap, cur, e, _⟩
  · subst e e0
    rw [HZ.out]
    clear hrow hpay hfar hdis
    go_enter Tryd.func14, Tryd.ntmps14
    go_wp2
    refine wp_loop_rounds 1 ?_; rw [rounds_succ]; go_wp2
    go_ret
    exact ⟨rfl, Below.refl _ _, rfl, fun _ _ _ => rfl, none, 0, rfl, (HX.out _ _).2 (.inl (by first | rfl | trivial))⟩
  · subst e
    have HFAR : Hid (∀ i, i < n → ∀ b, (gFx l i).2.1.ownBlock = some b → b ≠ g) := hid (fun i hi b hb e => hfar i hi b hb (by rw [e]; rfl))
    have HDIS := hid hdis
    have HM0 : Hid (MkI w w B g n cap l P 0) := hid ⟨Below.refl _ _, rfl, fun _ _ _ => rfl, ⟨_, hrow, HFC.out, fun i hi => by omega⟩, fun i hi => by omega, fun i _ hi => hpay i hi⟩
    clear hrow hpay hfar hdis
    go_enter Tryd.func14, Tryd.ntmps14
    go_wp2_with fail
    go_loopw [1, 5] (fun k i wr => ∃ j : Nat, j ≤ n ∧ i = .int .i64 (j : Int) ∧ k = .int .i64 (P j : Nat) ∧ MkI w wr B g n cap l P j) (fun _ i _ => n - (intOf i).toNat)
    case atStart => exact ⟨0, Nat.zero_le _, rfl, by rw [HZ.out], HM0.out⟩
    case round =>
      obtain ⟨j, hj, rfl, rfl, hM⟩ := hrel
      have hpj := HK.out j hj
      by_cases hlt : j < n
      · have hpk := HK.out (j + 1) hlt
        have hsj := HM.out j hlt
        obtain ⟨z1, b1, o1, r1, own1⟩ := hM.kind hlt HFAR.out
        obtain ⟨xs, ho, _, _⟩ := hM.row
        have hfz := ho.frozenAt (j * 2)
        obtain ⟨u, hu⟩ : ∃ u, wr.cell? ⟨g, j * 2, none⟩ = some u := by
          rw [ho.cellAt (j * 2) (by omega)]
          have := ho.1
          exact ⟨_, List.getElem?_eq_getElem (by omega)⟩
        obtain ⟨w1, hw1⟩ : ∃ w1, wr.setCell ⟨g, j * 2, none⟩ (.int .i64 (P j : Nat)) = w1 := ⟨_, rfl⟩
        rw [hw1] at z1 b1 o1 r1 own1
        obtain ⟨pa, pc, e1, _⟩ := own1.any
        have c1 : w1.cell? ⟨g, j * 2 + 1, none⟩ = some (.slice pa (gFx l j).2.2.length pc) := by
          obtain ⟨ys, q1, q2, _⟩ := r1
          rw [q1.cellAt (j * 2 + 1) (by omega), q2 j hlt, e1]
        have HC := hid (markOwn2 own1 (by omega) (P j + 1) (by omega))
        rw [e1] at HC
        have HN := hid (fun w2 => hM.next (w2 := w2) hlt HFAR.out HDIS.out z1 b1 o1 r1)
        rw [e1] at HN
        have HE1 := hid e1
        obtain ⟨L, hL⟩ : ∃ L, (gFx l j).2.2.length = L := ⟨_, rfl⟩
        rw [hL] at HC HN c1 hsj
        have HSJ := hid hsj
        rw [hsj] at hpk
        clear e1 hL hsj z1 b1 o1 r1 own1 ho hM
        obtain ⟨pj, hpj'⟩ : ∃ pj, P j = pj := ⟨_, rfl⟩
        rw [hpj'] at HC hw1 hpj hpk HSJ HN ⊢
        clear hpj'
        rw [show ((pj + 1 : Nat) : Int) = (pj : Int) + 1 by push_cast; rfl, show ((pj + 1 + L : Nat) : Int) = (pj : Int) + 1 + (L : Int) by push_cast; rfl] at HC
        have hwp : IntKind.i64.wrap ((pj : Int) + 1) = (pj : Int) + 1 := by rw [IntKind.wrap_i64]; omega
        go_wp2_with fail
        try rw [hw1]
        refine HC.out.mono ?_
        rintro e w2 ⟨rfl, b2, z2, o2, s2⟩
        have HI := hid (HN.out w2 b2 z2 o2 s2)
        clear b2 z2 o2 s2 HC HN hw1 c1 hu hfz
        go_wp2_with fail
        go_roundw
        case rel => exact ⟨j + 1, hlt, by go_num, by rw [HSJ.out]; push_cast; rfl, HI.out⟩
        case measure => simp [intOf]; omega
      · obtain rfl : j = n := by omega
        have HI := hid hM
        clear hM
        go_wp2_with fail
        go_ret
        refine ⟨rfl, HI.out.bel, HI.out.sz, fun b hb ha => HI.out.oth b (fun e => hb (by rw [e]; rfl)) ha, _, cap, rfl, (HX.out _ _).2 (.inr ?_)⟩
        obtain ⟨xs, q1, q2, q3⟩ := HI.out.row
        refine ⟨g, 0, rfl, (q1.lt g rfl).2, fun i hi => ?_⟩
        obtain ⟨pa, pc, e1, s1⟩ := HI.out.done i hi
        rw [Nat.zero_add]
        exact ⟨by rw [q1.cellAt _ (by omega)]; exact q3 i hi, by rw [q1.cellAt _ (by omega)]; exact q2 i hi, pa, pc, e1, s1⟩
end Go.Proofs.YthoilicolakofaaDoor
