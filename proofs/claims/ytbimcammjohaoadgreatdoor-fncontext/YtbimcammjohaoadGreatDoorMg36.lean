import Derived.Test.YtbimcammjohaoadGreatDoorMg35
import Derived.RegionTactic
import Derived.BigRegion
import Derived.Deep.RegionLaw
namespace Go.Proofs.YtbimcammjohaoadGreatDoor
open Go.ChangeShapes Go.WideShapes Go.ChangeAt Go.RowKit Go.Maps Go.Sort
set_option linter.unusedVariables false
set_option linter.unusedSimpArgs false

theorem OffV.put1 {w : World} {B size g off n c : Nat} {xs : List Value} (h : OffV w B size (.slice (some ⟨g, off, none⟩) n c) n xs) (j : Nat) (hj : j < n * size) (a : Value) : OffV (w.setCell ⟨g, off + j, none⟩ a) B size (.slice (some ⟨g, off, none⟩) n c) n (xs.set j a) := by
  obtain ⟨g', off', c', e, hB, hg, hn, hc, hl, h1, h2, h3⟩ := h
  injection e with e1 _ e3
  injection e1 with e1
  injection e1 with e1 e2 _
  subst e1 e2 e3
  have hcs : n * size ≤ c * size := Nat.mul_le_mul_right _ hn
  have hsome : ∃ u, w.cell? ⟨g, off + j, none⟩ = some u := Option.isSome_iff_exists.1 (h2 j (by omega))
  obtain ⟨u, hu⟩ := hsome
  refine ⟨g, off, c, rfl, hB, by simp [World.setCell]; exact hg, hn, hc, by simp [hl], fun t ht => ?_, fun t ht => ?_, fun t ht => ?_⟩
  · by_cases htj : t = j
    · subst htj
      rw [World.cell?_setCell_same _ _ _ hu, List.getElem?_set_self (by omega)]
    · rw [World.cell?_setCell_other _ _ _ _ (by intro e; injection e with _ e; omega), List.getElem?_set_ne (fun e => htj e.symm)]
      exact h1 t ht
  · by_cases htj : t = j
    · subst htj
      rw [World.cell?_setCell_same _ _ _ hu]; rfl
    · rw [World.cell?_setCell_other _ _ _ _ (by intro e; injection e with _ e; omega)]
      exact h2 t ht
  · rw [World.frozen?_setCell]; exact h3 t ht
theorem fCells_set : ∀ (l : List Rn) (i : Nat) (a b c : Int), fCells (l.set i (a, b, c)) = (((fCells l).set (i * 3) (.int .i64 a)).set (i * 3 + 1) (.int .i64 b)).set (i * 3 + 2) (.int .i64 c)
  | [], i, a, b, c => by simp [fCells]
  | p :: l, 0, a, b, c => by simp [fCells]
  | p :: l, i + 1, a, b, c => by
    have e : ∀ q : Rn, ∀ m : List Rn, fCells (q :: m) = .int .i64 q.1 :: .int .i64 q.2.1 :: .int .i64 q.2.2 :: fCells m := fun q m => by simp [fCells]
    rw [List.set_cons_succ, e, e, fCells_set l i a b c, show (i + 1) * 3 = i * 3 + 1 + 1 + 1 from by omega]
    simp [List.set_cons_succ]
theorem OffR.put {w : World} {B g off c : Nat} {l : List Rn} (h : OffR w B (.slice (some ⟨g, off, none⟩) l.length c) l) (i : Nat) (hi : i < l.length) (a b d : Int) :
    OffR (((w.setCell ⟨g, off + i * 3, none⟩ (.int .i64 a)).setCell ⟨g, off + i * 3 + 1, none⟩ (.int .i64 b)).setCell ⟨g, off + i * 3 + 2, none⟩ (.int .i64 d)) B (.slice (some ⟨g, off, none⟩) l.length c) (l.set i (a, b, d)) := by
  have h1 := OffV.put1 h (i * 3) (by omega) (.int .i64 a)
  have h2 := OffV.put1 h1 (i * 3 + 1) (by omega) (.int .i64 b)
  have h3 := OffV.put1 h2 (i * 3 + 2) (by omega) (.int .i64 d)
  unfold OffR
  rw [List.length_set, fCells_set]
  exact h3

structure FrB (w w' : World) (C rb : Nat) : Prop where
  os : w'.os = w.os
  tape : w'.tape = w.tape
  output : w'.output = w.output
  size : w.heap.size ≤ w'.heap.size
  block : ∀ k, k < C → k ≠ rb → w'.heap[k]? = w.heap[k]?
def BS (l : List Rn) : Prop := ∀ p ∈ l, -100 ≤ p.1 ∧ p.1 ≤ 100 ∧ -100 ≤ p.2.1 ∧ p.2.1 ≤ 2000000000 ∧ -100 ≤ p.2.2 ∧ p.2.2 ≤ 2000000000
theorem BR.bs {l : List Rn} (h : BR l) : BS l := fun p hp => by have := h p hp; omega
theorem BS.set {l : List Rn} (h : BS l) (i : Nat) (a b c : Int) (h0 : -100 ≤ a ∧ a ≤ 100 ∧ -100 ≤ b ∧ b ≤ 2000000000 ∧ -100 ≤ c ∧ c ≤ 2000000000) : BS (l.set i (a, b, c)) := fun p hp => by
  rcases List.mem_or_eq_of_mem_set hp with hp | hp
  · exact h p hp
  · subst hp; exact h0
theorem BS.snoc {l : List Rn} (h : BS l) (a b c : Int) (h0 : -100 ≤ a ∧ a ≤ 100 ∧ -100 ≤ b ∧ b ≤ 2000000000 ∧ -100 ≤ c ∧ c ≤ 2000000000) : BS (l ++ [(a, b, c)]) := fun p hp => by
  rcases List.mem_append.1 hp with hp | hp
  · exact h p hp
  · simp at hp; subst hp; exact h0
theorem OffR.lit1 (w : World) (B : Nat) (hB : B ≤ w.heap.size) (a b c : Int) : OffR (w.alloc (.cells #[.int .i64 a, .int .i64 b, .int .i64 c] 41)) B (.slice (some ⟨w.heap.size, 0, none⟩) 1 1) [(a, b, c)] := by
  refine ⟨w.heap.size, 0, 1, rfl, hB, by simp, Nat.le_refl _, by unfold maxLen; omega, rfl, fun j hj => ?_, fun j hj => ?_, fun j hj => ?_⟩
  · have hj' : j < 3 := by simpa using hj
    rw [Nat.zero_add]
    match j, hj' with
    | 0, _ => simp [fCells]
    | 1, _ => simp [fCells]
    | 2, _ => simp [fCells]
  · have hj' : j < 3 := by simpa using hj
    rw [Nat.zero_add]
    match j, hj' with
    | 0, _ => simp
    | 1, _ => simp
    | 2, _ => simp
  · simp

theorem OffR.at {w : World} {B g off c n : Nat} {l : List Rn} (h : OffR w B (.slice (some ⟨g, off, none⟩) n c) l) (i : Nat) (hi : i < l.length) :
    (w.cell? ⟨g, off + i * 3, none⟩ = some (.int .i64 (gR l i).1) ∧ w.cell? ⟨g, off + i * 3 + 1, none⟩ = some (.int .i64 (gR l i).2.1) ∧ w.cell? ⟨g, off + i * 3 + 2, none⟩ = some (.int .i64 (gR l i).2.2)) ∧ w.frozen? ⟨g, off + i * 3, none⟩ = false ∧ w.frozen? ⟨g, off + i * 3 + 1, none⟩ = false ∧ w.frozen? ⟨g, off + i * 3 + 2, none⟩ = false := by
  obtain ⟨g', off', c', e, hB, hg, hn, hc, hl, h1, h2, h3⟩ := h
  injection e with e1 _ e3
  injection e1 with e1
  injection e1 with e1 e2 _
  subst e1 e2 e3
  obtain ⟨k0, k1, k2⟩ := fr_key l i hi
  have hcs : l.length * 3 ≤ c * 3 := Nat.mul_le_mul_right _ hn
  refine ⟨⟨(h1 _ (by omega)).trans k0, ?_, ?_⟩, h3 _ (by omega), ?_, ?_⟩
  · rw [Nat.add_assoc]; exact (h1 _ (by omega)).trans k1
  · rw [Nat.add_assoc]; exact (h1 _ (by omega)).trans k2
  · rw [Nat.add_assoc]; exact h3 _ (by omega)
  · rw [Nat.add_assoc]; exact h3 _ (by omega)

theorem spoil_end {w1 : World} {C g off c ii b4 : Nat} {l : List Rn} (h : OffR w1 C (.slice (some ⟨g, off, none⟩) l.length c) l) (hi : ii < l.length) (m1 : w1.cell? ⟨b4, 0, none⟩ = some (.slice none 0 0)) (hg : g ≠ b4) (hC : C ≤ b4) (hz : b4 < w1.heap.size) (a b d : Int) (o : Obj) :
    OffR (((((w1.setCell ⟨g, off + ii * 3, none⟩ (.int .i64 a)).setCell ⟨g, off + ii * 3 + 1, none⟩ (.int .i64 b)).setCell ⟨g, off + ii * 3 + 2, none⟩ (.int .i64 d)).setCell ⟨b4, 0, none⟩ (.slice (some ⟨g, off, none⟩) l.length c)).alloc o) C (.slice (some ⟨g, off, none⟩) l.length c) (l.set ii (a, b, d)) ∧
    Below C w1 (((((w1.setCell ⟨g, off + ii * 3, none⟩ (.int .i64 a)).setCell ⟨g, off + ii * 3 + 1, none⟩ (.int .i64 b)).setCell ⟨g, off + ii * 3 + 2, none⟩ (.int .i64 d)).setCell ⟨b4, 0, none⟩ (.slice (some ⟨g, off, none⟩) l.length c)).alloc o) ∧
    (((((w1.setCell ⟨g, off + ii * 3, none⟩ (.int .i64 a)).setCell ⟨g, off + ii * 3 + 1, none⟩ (.int .i64 b)).setCell ⟨g, off + ii * 3 + 2, none⟩ (.int .i64 d)).setCell ⟨b4, 0, none⟩ (.slice (some ⟨g, off, none⟩) l.length c)).alloc o).cell? ⟨b4, 0, none⟩ = some (.slice (some ⟨g, off, none⟩) l.length c) := by
  obtain ⟨g', e1, hCg, _⟩ := OffV.lt h
  have e1' : g = g' := by simpa [Value.ownBlock] using e1
  subst e1'
  have hp := h.put ii hi a b d
  obtain ⟨W, hW⟩ : ∃ W, ((w1.setCell ⟨g, off + ii * 3, none⟩ (.int .i64 a)).setCell ⟨g, off + ii * 3 + 1, none⟩ (.int .i64 b)).setCell ⟨g, off + ii * 3 + 2, none⟩ (.int .i64 d) = W := ⟨_, rfl⟩
  have bW : Below C w1 W := by rw [← hW]; exact (((Below.refl _ _).setCell (p := ⟨g, off + ii * 3, none⟩) hCg _).setCell (p := ⟨g, off + ii * 3 + 1, none⟩) hCg _).setCell (p := ⟨g, off + ii * 3 + 2, none⟩) hCg _
  have zW : W.heap.size = w1.heap.size := by rw [← hW]; simp [World.setCell]
  have mW : W.cell? ⟨b4, 0, none⟩ = some (.slice none 0 0) := by
    rw [← hW]
    have q : ∀ (X : World) (o : Nat) (u : Value), (X.setCell ⟨g, o, none⟩ u).cell? ⟨b4, 0, none⟩ = X.cell? ⟨b4, 0, none⟩ := fun X o u => World.cell?_setCell_other _ _ _ _ (fun e => hg (by injection e))
    rw [q, q, q]; exact m1
  rw [hW] at hp ⊢
  have hs : W.grownBy (W.setCell ⟨b4, 0, none⟩ (.slice (some ⟨g, off, none⟩) l.length c)) (some b4) := ⟨rfl, rfl, rfl, by simp [World.setCell], fun k hk hne => Below.heap_setCell _ _ _ _ (fun e => hne (by rw [e]))⟩
  have zS : (W.setCell ⟨b4, 0, none⟩ (.slice (some ⟨g, off, none⟩) l.length c)).heap.size = w1.heap.size := by rw [← zW]; simp [World.setCell]
  have bA := (Below.refl w1.heap.size (W.setCell ⟨b4, 0, none⟩ (.slice (some ⟨g, off, none⟩) l.length c))).alloc (by rw [zS]; exact Nat.le_refl _) o
  refine ⟨OffV.below (OffV.gr hp hs (fun e => by simp [Value.ownBlock] at e; exact hg e)) bA (by rw [zS]; exact Nat.le_refl _), (bW.setCell (p := ⟨b4, 0, none⟩) hC _).alloc (by rw [zS]; omega) o, ?_⟩
  exact (bA.cell (p := ⟨b4, 0, none⟩) hz).trans (World.cell?_setCell_same _ _ _ mW)

theorem spoil_end2 {w1 : World} {C g off c ii b4 : Nat} {l : List Rn} (h : OffR w1 C (.slice (some ⟨g, off, none⟩) l.length c) l) (hi : ii < l.length) (m1 : w1.cell? ⟨b4, 0, none⟩ = some (.slice none 0 0)) (hg : g ≠ b4) (hC : C ≤ b4) (a b d : Int) :
    OffR ((((w1.setCell ⟨g, off + ii * 3, none⟩ (.int .i64 a)).setCell ⟨g, off + ii * 3 + 1, none⟩ (.int .i64 b)).setCell ⟨g, off + ii * 3 + 2, none⟩ (.int .i64 d)).setCell ⟨b4, 0, none⟩ (.slice (some ⟨g, off, none⟩) l.length c)) C (.slice (some ⟨g, off, none⟩) l.length c) (l.set ii (a, b, d)) ∧
    Below C w1 ((((w1.setCell ⟨g, off + ii * 3, none⟩ (.int .i64 a)).setCell ⟨g, off + ii * 3 + 1, none⟩ (.int .i64 b)).setCell ⟨g, off + ii * 3 + 2, none⟩ (.int .i64 d)).setCell ⟨b4, 0, none⟩ (.slice (some ⟨g, off, none⟩) l.length c)) ∧
    ((((w1.setCell ⟨g, off + ii * 3, none⟩ (.int .i64 a)).setCell ⟨g, off + ii * 3 + 1, none⟩ (.int .i64 b)).setCell ⟨g, off + ii * 3 + 2, none⟩ (.int .i64 d)).setCell ⟨b4, 0, none⟩ (.slice (some ⟨g, off, none⟩) l.length c)).cell? ⟨b4, 0, none⟩ = some (.slice (some ⟨g, off, none⟩) l.length c) := by
  obtain ⟨g', e1, hCg, _⟩ := OffV.lt h
  have e1' : g = g' := by simpa [Value.ownBlock] using e1
  subst e1'
  have hp := h.put ii hi a b d
  obtain ⟨W, hW⟩ : ∃ W, ((w1.setCell ⟨g, off + ii * 3, none⟩ (.int .i64 a)).setCell ⟨g, off + ii * 3 + 1, none⟩ (.int .i64 b)).setCell ⟨g, off + ii * 3 + 2, none⟩ (.int .i64 d) = W := ⟨_, rfl⟩
  have bW : Below C w1 W := by rw [← hW]; exact (((Below.refl _ _).setCell (p := ⟨g, off + ii * 3, none⟩) hCg _).setCell (p := ⟨g, off + ii * 3 + 1, none⟩) hCg _).setCell (p := ⟨g, off + ii * 3 + 2, none⟩) hCg _
  have mW : W.cell? ⟨b4, 0, none⟩ = some (.slice none 0 0) := by
    rw [← hW]
    have q : ∀ (X : World) (o : Nat) (u : Value), (X.setCell ⟨g, o, none⟩ u).cell? ⟨b4, 0, none⟩ = X.cell? ⟨b4, 0, none⟩ := fun X o u => World.cell?_setCell_other _ _ _ _ (fun e => hg (by injection e))
    rw [q, q, q]; exact m1
  rw [hW] at hp ⊢
  have hs : W.grownBy (W.setCell ⟨b4, 0, none⟩ (.slice (some ⟨g, off, none⟩) l.length c)) (some b4) := ⟨rfl, rfl, rfl, by simp [World.setCell], fun k hk hne => Below.heap_setCell _ _ _ _ (fun e => hne (by rw [e]))⟩
  exact ⟨OffV.gr hp hs (fun e => by simp [Value.ownBlock] at e; exact hg e), bW.setCell (p := ⟨b4, 0, none⟩) hC _, World.cell?_setCell_same _ _ _ mW⟩
theorem step_app_off {P : Program} {w : World} {ops : Array Oper} {o : Oper} {a : Act} {K : Act → World → Prop} {Q : Exit → Act → World → Prop} {E : Prop} (hgd : o.guard = none) (s x : Operand) (t : TypeId)
    (ho : o.op = .call { callee := .builtin .append, args := #[s, x], argTypes := #[t, t] })
    (base : Nat) (e : TypeId) (i : TypeInfo) (z : Value) (size bytes : Nat) (ht : P.underlying t = some (.slice e)) (hi : P.info? e = some i) (hz : i.zero = some z)
    (hsize : i.size = size) (hby : i.bytes = bytes) (hzs : z.cells.size = size)
    (v : Value) (n : Nat) (xs : List Value) (hs : a.eval s = v) (hown : OffV w base size v n xs)
    (ad : Addr) (m c : Nat) (news : List Value) (hx : a.eval x = .slice (some ad) m c) (hl : news.length = m * size) (hnews : ∀ j u, news[j]? = some u → w.cell? (ad.add j) = some u) (h1 : ∀ u ∈ news, u.oneCell' = true)
    (h63 : n + m ≤ maxLen) (hbytes : (n + m) * bytes ≤ 140737488355328) (hbase : base ≤ w.heap.size)
    (h : ∀ g' o' c' w', OffV w' base size (.slice (some ⟨g', o', none⟩) (n + m) c') (n + m) (xs ++ news) → w.grownBy w' v.ownBlock → (some g' = v.ownBlock ∨ some g' = some w.heap.size) → K (a.put o.dst (.slice (some ⟨g', o', none⟩) (n + m) c')) w') :
    if Region.wanted o (yielded ops a.tmps) = true then Oper.wp P o a w K Q else E := by
  have hw : Region.wanted o (yielded ops a.tmps) = true := by simp [Region.wanted, hgd]
  rw [if_pos hw]
  refine wp_app_off s x t ho base e i z size bytes ht hi hz hsize hby hzs v n xs hs hown ad m c news hx hl hnews h1 h63 hbytes hbase (fun v' w' h2 h3 h4 => ?_)
  obtain ⟨g', o', c', rfl, r⟩ := h2
  exact h g' o' c' w' ⟨g', o', c', rfl, r⟩ h3 (h4.imp id id)

theorem spoil_mid {W2 w7 : World} {C b3 b4 b7 g g7 o7 c7 ii : Nat} {L : List Rn} {u3 p0 p1 p2 : Value} (hg : W2.grownBy w7 (some g)) (ho : OffR w7 C (.slice (some ⟨g7, o7, none⟩) L.length c7) L) (hl : g7 = g ∨ W2.heap.size ≤ g7) (h3 : b3 < W2.heap.size) (h4 : b4 < W2.heap.size) (h7 : b7 < W2.heap.size) (n3 : g ≠ b3) (n4 : g ≠ b4) (n7 : g ≠ b7) (n34 : b3 ≠ b4) (n37 : b3 ≠ b7) (hC3 : C ≤ b3) (hCg : C ≤ g) (hCW : C ≤ W2.heap.size)
    (c3 : W2.cell? ⟨b3, 0, none⟩ = some u3) (f3 : W2.frozen? ⟨b3, 0, none⟩ = false) (c4 : W2.cell? ⟨b4, 0, none⟩ = some (.slice none 0 0)) (f4 : W2.frozen? ⟨b4, 0, none⟩ = false) (q0 : W2.cell? ⟨b7, 0, none⟩ = some p0) (q1 : W2.cell? ⟨b7, 1, none⟩ = some p1) (q2 : W2.cell? ⟨b7, 2, none⟩ = some p2) :
    (w7.cell? ⟨b3, 0, none⟩ = some u3 ∧ w7.frozen? ⟨b3, 0, none⟩ = false ∧ g7 ≠ b4 ∧ g7 ≠ b3) ∧ ∀ W8, w7.setCell ⟨b3, 0, none⟩ (.slice (some ⟨g7, o7, none⟩) L.length c7) = W8 →
      W8.cell? ⟨b3, 0, none⟩ = some (.slice (some ⟨g7, o7, none⟩) L.length c7) ∧ W8.cell? ⟨b4, 0, none⟩ = some (.slice none 0 0) ∧ W8.frozen? ⟨b4, 0, none⟩ = false ∧ W8.cell? ⟨b7, 0, none⟩ = some p0 ∧ W8.cell? ⟨b7, 1, none⟩ = some p1 ∧ W8.cell? ⟨b7, 2, none⟩ = some p2 ∧ OffR W8 C (.slice (some ⟨g7, o7, none⟩) L.length c7) L ∧ Below C W2 W8 := by
  have e3 := hg.block b3 h3 (fun e => n3 (by injection e with e; exact e.symm))
  have e4 := hg.block b4 h4 (fun e => n4 (by injection e with e; exact e.symm))
  have e7 := hg.block b7 h7 (fun e => n7 (by injection e with e; exact e.symm))
  have d3 := (World.cell?_of_block (a := ⟨b3, 0, none⟩) e3).trans c3
  refine ⟨⟨d3, (World.frozen?_of_block (a := ⟨b3, 0, none⟩) e3).trans f3, by rcases hl with h | h <;> omega, by rcases hl with h | h <;> omega⟩, ?_⟩
  rintro W8 rfl
  have q : ∀ (b o : Nat) (u : Value), b3 ≠ b → (w7.setCell ⟨b3, 0, none⟩ u).cell? ⟨b, o, none⟩ = w7.cell? ⟨b, o, none⟩ := fun b o u hb => World.cell?_setCell_other _ _ _ _ (fun e => hb (by injection e))
  have hs : ∀ u, w7.grownBy (w7.setCell ⟨b3, 0, none⟩ u) (some b3) := fun u => ⟨rfl, rfl, rfl, by simp [World.setCell], fun k hk hne => Below.heap_setCell _ _ _ _ (fun e => hne (by rw [e]))⟩
  have b27 : Below C W2 w7 := (Below.refl _ _).grown hg hCW (fun k e => by injection e with e; omega)
  refine ⟨World.cell?_setCell_same _ _ _ d3, ?_, ?_, ?_, ?_, ?_, OffV.gr ho (hs _) (fun e => by simp [Value.ownBlock] at e; rcases hl with h | h <;> omega), b27.setCell (p := ⟨b3, 0, none⟩) hC3 _⟩
  · rw [q _ _ _ n34]; exact (World.cell?_of_block (a := ⟨b4, 0, none⟩) e4).trans c4
  · rw [World.frozen?_setCell]; exact (World.frozen?_of_block (a := ⟨b4, 0, none⟩) e4).trans f4
  · rw [q _ _ _ n37]; exact (World.cell?_of_block (a := ⟨b7, 0, none⟩) e7).trans q0
  · rw [q _ _ _ n37]; exact (World.cell?_of_block (a := ⟨b7, 1, none⟩) e7).trans q1
  · rw [q _ _ _ n37]; exact (World.cell?_of_block (a := ⟨b7, 2, none⟩) e7).trans q2

set_option maxRecDepth 100000 in
set_option maxHeartbeats 2000000 in
theorem spoilC (B rb C : Nat) (v : Value) (l : List Rn) (w : World) (h : Rd w B rb) (hB : B ≤ C) (hC : C ≤ w.heap.size) (ho : OffR w C v l) (hl : l.length ≤ 1000) (hbr : BR l) :
    Calls Tryz.prog 30 #[.pointer (some ⟨rb, 0, none⟩), .agg #[v]] w fun e w' => ∃ v' l', e = .returned (.agg #[v']) ∧ OffR w' C v' l' ∧ l'.length ≤ 1001 ∧ BS l' ∧ Rd w' B rb ∧ FrB w w' C rb := by
  obtain ⟨i0, hi0, iz0, iz1, iz2⟩ := info_parts Tryz.infoRun
  obtain ⟨g, off, c, rfl, fs0, hc1, hc2, hg0, hg1⟩ := ho.fs
  clear fs0
  obtain ⟨W, hW⟩ : ∃ W, (w.alloc (.cells #[.slice (some ⟨g, off, none⟩) l.length c] 25)).alloc (.cells #[.slice none 0 0] 25) = W := ⟨_, rfl⟩
  have bW : Below w.heap.size w W := by rw [← hW]; exact below2 _ _ _
  have k0 : W.cell? ⟨w.heap.size, 0, none⟩ = some (.slice (some ⟨g, off, none⟩) l.length c) := by rw [← hW]; simp
  have k1 : W.cell? ⟨w.heap.size + 1, 0, none⟩ = some (.slice none 0 0) := by rw [← hW]; simp
  have f0 : W.frozen? ⟨w.heap.size, 0, none⟩ = false := by rw [← hW]; simp
  have f1 : W.frozen? ⟨w.heap.size + 1, 0, none⟩ = false := by rw [← hW]; simp
  have zW : Hid (W.heap.size = w.heap.size + 2) := by rw [← hW]; exact hid (by simp)
  have hrb := h.lt
  have HR := hid (h.below (bW.mono (by omega)))
  have HO := hid (OffV.below ho bW (Nat.le_refl _))
  have HBW := hid bW
  clear h bW ho
  go_enter Tryz.func30, Tryz.ntmps30
  go_wp2_with fail
  try rw [hW]
  clear hW
  refine (rdNext B rb W HR.out).mono ?_
  rintro e w1 ⟨k, hk, rfl, r1, g1⟩
  have z1 := g1.size
  have zz : w.heap.size + 1 < w1.heap.size := by have := zW.out; omega
  have nb : some w.heap.size ≠ some rb := fun e => by injection e with e; omega
  have nb1 : some (w.heap.size + 1) ≠ some rb := fun e => by injection e with e; omega
  have e1 := g1.block w.heap.size (by have := zW.out; omega) nb
  have e2 := g1.block (w.heap.size + 1) (by have := zW.out; omega) nb1
  have m0 := (World.cell?_of_block (a := ⟨w.heap.size, 0, none⟩) e1).trans k0
  have m1 := (World.cell?_of_block (a := ⟨w.heap.size + 1, 0, none⟩) e2).trans k1
  have y0 := (World.frozen?_of_block (a := ⟨w.heap.size, 0, none⟩) e1).trans f0
  have y1 := (World.frozen?_of_block (a := ⟨w.heap.size + 1, 0, none⟩) e2).trans f1
  have ho1 : OffR w1 C (.slice (some ⟨g, off, none⟩) l.length c) l := OffV.gr HO.out g1 (fun e => by simp [Value.ownBlock] at e; omega)
  have HO1 := hid ho1
  have key : Hid (∀ W3 : World, Below C w1 W3 → Rd W3 B rb ∧ FrB w W3 C rb) := hid (fun W3 hb => by
    refine ⟨r1.below (hb.mono hB), hb.os.trans (g1.os.trans HBW.out.os), hb.tape.trans (g1.tape.trans HBW.out.tape), hb.output.trans (g1.output.trans HBW.out.output), Nat.le_trans HBW.out.size (Nat.le_trans g1.size hb.size), fun k hk hne => ?_⟩
    have q := HBW.out.size
    exact (hb.block k hk).trans ((g1.block k (by omega) (fun e => hne (by injection e))).trans (HBW.out.block k (by omega))))
  have zz0 : w.heap.size < w1.heap.size := by omega
  have zg : g < w1.heap.size := by have := HBW.out.size; omega
  have hgn0 : g ≠ w.heap.size := by omega
  have hgn1 : g ≠ w.heap.size + 1 := by omega
  clear r1 g1 e1 e2 k0 k1 f0 f1 HR HO
  by_cases hl0 : l.length = 0
  · have d0 : ((l.length : Int) == 0) = true := by rw [hl0]; rfl
    have OL := hid (fun (X : World) (hX : C ≤ X.heap.size) => OffR.lit1 X C hX 0 0 (k : Int))
    go_wp2_with fail
    have zS : ∀ u, (w1.setCell ⟨w.heap.size + 1, 0, none⟩ u).heap.size = w1.heap.size := fun u => by simp [World.setCell]
    have oo := OL.out (w1.setCell ⟨w.heap.size + 1, 0, none⟩ (.slice (some ⟨w1.heap.size, 0, none⟩) 1 1)) (by rw [zS]; omega)
    rw [zS] at oo
    have bA := (Below.refl w1.heap.size (w1.setCell ⟨w.heap.size + 1, 0, none⟩ (.slice (some ⟨w1.heap.size, 0, none⟩) 1 1))).alloc (by rw [zS]; exact Nat.le_refl _) (.cells #[.int .i64 0, .int .i64 0, .int .i64 (k : Int)] 41)
    have o3 := (bA.cell (p := ⟨w.heap.size + 1, 0, none⟩) zz).trans (World.cell?_setCell_same _ _ _ m1)
    obtain ⟨q1, q2⟩ := key.out _ (((Below.refl C w1).setCell (p := ⟨w.heap.size + 1, 0, none⟩) (show C ≤ w.heap.size + 1 by omega) (.slice (some ⟨w1.heap.size, 0, none⟩) 1 1)).alloc (by rw [zS]; omega) (.cells #[.int .i64 0, .int .i64 0, .int .i64 (k : Int)] 41))
    refine bodyPost_ret (v := .agg #[.slice (some ⟨w1.heap.size, 0, none⟩) 1 1]) (by simp [results, Tryz.results30, go_sem, o3]) rfl ?_
    exact ⟨_, _, rfl, oo, by simp, (fun p hp => by simp at hp; subst hp; simp only; omega), q1, q2⟩
  · have d0 : ((l.length : Int) == 0) = false := by rw [beq_eq_false_iff_ne]; omega
    obtain ⟨mm, hii⟩ : ∃ mm : Int, (k : Int) / 8 % (l.length : Int) = mm := ⟨_, rfl⟩
    have hm0 : 0 ≤ mm := by rw [← hii]; exact Int.emod_nonneg _ (by omega)
    have hm1 : mm < (l.length : Int) := by rw [← hii]; exact Int.emod_lt_of_pos _ (by omega)
    obtain ⟨ii, rfl⟩ : ∃ ii : Nat, mm = (ii : Int) := ⟨mm.toNat, by omega⟩
    have hil : ii < l.length := by omega
    obtain ⟨⟨x0, x1, x2⟩, z0, z1', z2⟩ := ho1.at ii hil
    have hp := hbr (gR l ii) (gR_mem hil)
    obtain ⟨pr, hpr⟩ : ∃ pr : Nat, (gR l ii).1 = (pr : Int) := ⟨((gR l ii).1).toNat, by omega⟩
    obtain ⟨pf', hpf⟩ : ∃ pf' : Nat, (gR l ii).2.1 = (pf' : Int) := ⟨((gR l ii).2.1).toNat, by omega⟩
    obtain ⟨pt, hpt⟩ : ∃ pt : Nat, (gR l ii).2.2 = (pt : Int) := ⟨((gR l ii).2.2).toNat, by omega⟩
    rw [hpr, hpf, hpt] at hp
    rw [hpr] at x0
    rw [hpf] at x1
    rw [hpt] at x2
    have i1 : (0 : Int) ≤ (ii : Int) := Int.natCast_nonneg _
    have i2 : (ii : Int) < (l.length : Int) := by omega
    have nz' : ¬ (l.length : Int) = 0 := by omega
    have r1' : Int.tmod ((k : Int) / 8) (l.length : Int) = (ii : Int) := by rw [Int.tmod_eq_emod_of_nonneg (by omega)]; exact hii
    have wii : IntKind.i64.wrap (ii : Int) = (ii : Int) := by rw [IntKind.wrap_i64]; omega
    clear ho1
    obtain ⟨k8, hk8⟩ : ∃ k8 : Nat, (k : Int) % 8 = (k8 : Int) := ⟨k % 8, by omega⟩
    have hk87 : k8 < 8 := by omega
    match k8, hk87 with
    | 0, _ =>
      obtain ⟨a, ha⟩ : ∃ a : Int, (k : Int) / 8 - 8 = a := ⟨_, rfl⟩
      have wa : IntKind.i64.wrap ((k : Int) / 8 - 8) = a := by rw [IntKind.wrap_i64]; omega
      go_wp2_with fail
      obtain ⟨o1, o2, o3⟩ := spoil_end HO1.out hil m1 hgn1 (by omega) zz (a) ((pf' : Int)) ((pt : Int)) (.cells #[.int .i64 (a), .int .i64 ((pf' : Int)), .int .i64 ((pt : Int))] 41)
      obtain ⟨q1, q2⟩ := key.out _ o2
      refine bodyPost_ret (v := .agg #[.slice (some ⟨g, off, none⟩) l.length c]) (by simp [results, Tryz.results30, go_sem, o3]) rfl ?_
      exact ⟨_, _, rfl, o1, by rw [List.length_set]; omega, hbr.bs.set ii _ _ _ (by omega), q1, q2⟩
    | 1, _ =>
      obtain ⟨a, ha⟩ : ∃ a : Int, (pt : Int) + 1 = a := ⟨_, rfl⟩
      have wa : IntKind.i64.wrap ((pt : Int) + 1) = a := by rw [IntKind.wrap_i64]; omega
      go_wp2_with fail
      obtain ⟨o1, o2, o3⟩ := spoil_end HO1.out hil m1 hgn1 (by omega) zz ((pr : Int)) (a) ((pt : Int)) (.cells #[.int .i64 ((pr : Int)), .int .i64 (a), .int .i64 ((pt : Int))] 41)
      obtain ⟨q1, q2⟩ := key.out _ o2
      refine bodyPost_ret (v := .agg #[.slice (some ⟨g, off, none⟩) l.length c]) (by simp [results, Tryz.results30, go_sem, o3]) rfl ?_
      exact ⟨_, _, rfl, o1, by rw [List.length_set]; omega, hbr.bs.set ii _ _ _ (by omega), q1, q2⟩
    | 2, _ =>
      go_wp2_with fail
      obtain ⟨o1, o2, o3⟩ := spoil_end HO1.out hil m1 hgn1 (by omega) zz ((pr : Int)) ((pf' : Int)) (1000000001) (.cells #[.int .i64 ((pr : Int)), .int .i64 ((pf' : Int)), .int .i64 (1000000001)] 41)
      obtain ⟨q1, q2⟩ := key.out _ o2
      refine bodyPost_ret (v := .agg #[.slice (some ⟨g, off, none⟩) l.length c]) (by simp [results, Tryz.results30, go_sem, o3]) rfl ?_
      exact ⟨_, _, rfl, o1, by rw [List.length_set]; omega, hbr.bs.set ii _ _ _ (by omega), q1, q2⟩
    | 3, _ =>
      go_wp2_with fail
      obtain ⟨o1, o2, o3⟩ := spoil_end HO1.out hil m1 hgn1 (by omega) zz ((pr : Int)) (0) ((pt : Int)) (.cells #[.int .i64 ((pr : Int)), .int .i64 (0), .int .i64 ((pt : Int))] 41)
      obtain ⟨q1, q2⟩ := key.out _ o2
      refine bodyPost_ret (v := .agg #[.slice (some ⟨g, off, none⟩) l.length c]) (by simp [results, Tryz.results30, go_sem, o3]) rfl ?_
      exact ⟨_, _, rfl, o1, by rw [List.length_set]; omega, hbr.bs.set ii _ _ _ (by omega), q1, q2⟩
    | 4, _ =>
      obtain ⟨a1, ha1⟩ : ∃ a1 : Int, (pt : Int) + 1 = a1 := ⟨_, rfl⟩
      obtain ⟨a2, ha2⟩ : ∃ a2 : Int, (pt : Int) + 2 = a2 := ⟨_, rfl⟩
      have wa1 : IntKind.i64.wrap ((pt : Int) + 1) = a1 := by rw [IntKind.wrap_i64]; omega
      have wa2 : IntKind.i64.wrap ((pt : Int) + 2) = a2 := by rw [IntKind.wrap_i64]; omega
      obtain ⟨W2, hW2⟩ : ∃ W2, w1.alloc (.cells #[.int .i64 (pr : Int), .int .i64 (pf' : Int), .int .i64 (pt : Int)] 41) = W2 := ⟨_, rfl⟩
      have b2 : Below w1.heap.size w1 W2 := by rw [← hW2]; exact (Below.refl _ _).alloc (Nat.le_refl _) _
      have zW2 : Hid (W2.heap.size = w1.heap.size + 1) := by rw [← hW2]; exact hid (by simp)
      have q0 : W2.cell? ⟨w1.heap.size, 0, none⟩ = some (.int .i64 (pr : Int)) := by rw [← hW2]; simp
      have q1 : W2.cell? ⟨w1.heap.size, 1, none⟩ = some (.int .i64 (pf' : Int)) := by rw [← hW2]; simp
      have q2 : W2.cell? ⟨w1.heap.size, 2, none⟩ = some (.int .i64 (pt : Int)) := by rw [← hW2]; simp
      have n0 := (b2.cell (p := ⟨w.heap.size, 0, none⟩) zz0).trans m0
      have n1 := (b2.cell (p := ⟨w.heap.size + 1, 0, none⟩) zz).trans m1
      have u0 := (b2.frozen (p := ⟨w.heap.size, 0, none⟩) zz0).trans y0
      have u1 := (b2.frozen (p := ⟨w.heap.size + 1, 0, none⟩) zz).trans y1
      have HO2 := hid (OffV.below (OffV.below HO1.out b2 (Nat.le_refl _)) ((Below.refl W2.heap.size W2).alloc (Nat.le_refl _) (.cells #[.int .i64 (pr : Int), .int .i64 a1, .int .i64 a2] 41)) (Nat.le_refl _))
      have HNW := hid (cell3A W2 (.int .i64 (pr : Int)) (.int .i64 a1) (.int .i64 a2) 41)
      have HB2 := hid b2
      clear b2
      go_wp2_with (at_builtin; refine wpList_app_off rfl _ _ 23 rfl C 41 i0 _ 3 24 Tryz.underlying23 hi0 iz0 iz1 iz2 rfl _ _ _ rfl HO2.out ⟨W2.heap.size, 0, none⟩ 1 1 [.int .i64 (pr : Int), .int .i64 a1, .int .i64 a2] ?f0 rfl ?f1 ?f2 ?f3 ?f4 ?f5 ?_)
      case f0 => rfl
      case f1 => exact HNW.out
      case f2 => intro u hu; simp at hu; rcases hu with rfl | rfl | rfl <;> rfl
      case f3 => unfold maxLen; omega
      case f4 => omega
      case f5 => have := zW2.out; simp; omega
      intro v7 w7 hown7 hgr7 hloc7
      have gg : W2.grownBy w7 (some g) := (World.grownBy_alloc W2 _ _).trans hgr7
      obtain ⟨L, hL⟩ : ∃ L, l ++ [((pr : Int), a1, a2)] = L := ⟨_, rfl⟩
      have hLl : L.length = l.length + 1 := by rw [← hL]; simp
      have hLo : OffR w7 C v7 L := by unfold OffR; rw [hLl, ← hL, fCells_append]; exact hown7
      have HBL : Hid (BS L) := hid (by rw [← hL]; exact hbr.bs.snoc _ _ _ (by omega))
      obtain ⟨g7, o7, c7, rfl, _, hc7, hc7', hg7, _⟩ := hLo.fs
      have hloc : g7 = g ∨ W2.heap.size ≤ g7 := by
        rcases hloc7 with q | q
        · simp [Value.ownBlock] at q; exact .inl q
        · simp [Value.ownBlock] at q; exact .inr (by omega)
      have zz2 := zW2.out
      obtain ⟨⟨d3, d3z, d74, d73⟩, mid⟩ := spoil_mid gg hLo hloc (b3 := w.heap.size) (b4 := w.heap.size + 1) (b7 := w1.heap.size) (ii := ii) (by omega) (by omega) (by omega) hgn0 hgn1 (by omega) (by omega) (by omega) (by omega) hg0 (by omega) n0 u0 n1 u1 q0 q1 q2
      obtain ⟨W8, hW8⟩ : ∃ W8, w7.setCell ⟨w.heap.size, 0, none⟩ (.slice (some ⟨g7, o7, none⟩) L.length c7) = W8 := ⟨_, rfl⟩
      obtain ⟨s3, s4, s4z, t0, t1, t2, o8, b8⟩ := mid W8 hW8
      obtain ⟨⟨x0', x1', x2'⟩, z0', z1'', z2'⟩ := o8.at ii (by omega)
      have i3 : (ii : Int) < (L.length : Int) := by omega
      have HO8 := hid o8
      have HB8 : Hid (Below C w1 W8) := hid ((HB2.out.mono (by omega)).trans b8)
      have HLl := hid hLl
      have HD := hid d74
      clear hown7 hgr7 hloc7 gg hLo hLl hL mid o8 b8 n0 n1 u0 u1 q0 q1 q2 x0 x1 x2 z0 z1' z2 HO2 HNW zz2 hloc m0 m1 y0 y1 hW2
      go_wp2_with fail
      obtain ⟨o1, o2, o3⟩ := spoil_end2 (ii := ii) HO8.out (by have := HLl.out; omega) s4 HD.out (by omega) (pr : Int) (pf' : Int) (pt : Int)
      obtain ⟨q1, q2⟩ := key.out _ (HB8.out.trans o2)
      refine bodyPost_ret (v := .agg #[.slice (some ⟨g7, o7, none⟩) L.length c7]) (by simp [results, Tryz.results30, go_sem, o3]) rfl ?_
      exact ⟨_, _, rfl, o1, by rw [List.length_set]; have := HLl.out; omega, HBL.out.set ii _ _ _ (by omega), q1, q2⟩
    | 5, _ =>
      obtain ⟨W2, hW2⟩ : ∃ W2, w1.alloc (.cells #[.int .i64 (pr : Int), .int .i64 (pf' : Int), .int .i64 (pt : Int)] 41) = W2 := ⟨_, rfl⟩
      have b2 : Below w1.heap.size w1 W2 := by rw [← hW2]; exact (Below.refl _ _).alloc (Nat.le_refl _) _
      have zW2 : Hid (W2.heap.size = w1.heap.size + 1) := by rw [← hW2]; exact hid (by simp)
      have q0 : W2.cell? ⟨w1.heap.size, 0, none⟩ = some (.int .i64 (pr : Int)) := by rw [← hW2]; simp
      have q1 : W2.cell? ⟨w1.heap.size, 1, none⟩ = some (.int .i64 (pf' : Int)) := by rw [← hW2]; simp
      have q2 : W2.cell? ⟨w1.heap.size, 2, none⟩ = some (.int .i64 (pt : Int)) := by rw [← hW2]; simp
      have n0 := (b2.cell (p := ⟨w.heap.size, 0, none⟩) zz0).trans m0
      have n1 := (b2.cell (p := ⟨w.heap.size + 1, 0, none⟩) zz).trans m1
      have u0 := (b2.frozen (p := ⟨w.heap.size, 0, none⟩) zz0).trans y0
      have u1 := (b2.frozen (p := ⟨w.heap.size + 1, 0, none⟩) zz).trans y1
      have HO2 := hid (OffV.below (OffV.below HO1.out b2 (Nat.le_refl _)) ((Below.refl W2.heap.size W2).alloc (Nat.le_refl _) (.cells #[.int .i64 (pr : Int), .int .i64 (pf' : Int), .int .i64 (pt : Int)] 41)) (Nat.le_refl _))
      have HNW := hid (cell3A W2 (.int .i64 (pr : Int)) (.int .i64 (pf' : Int)) (.int .i64 (pt : Int)) 41)
      have HB2 := hid b2
      clear b2
      go_wp2_with (at_builtin; refine wpList_app_off rfl _ _ 23 rfl C 41 i0 _ 3 24 Tryz.underlying23 hi0 iz0 iz1 iz2 rfl _ _ _ rfl HO2.out ⟨W2.heap.size, 0, none⟩ 1 1 [.int .i64 (pr : Int), .int .i64 (pf' : Int), .int .i64 (pt : Int)] ?k0 rfl ?k1 ?k2 ?k3 ?k4 ?k5 ?_)
      case k0 => rfl
      case k1 => exact HNW.out
      case k2 => intro u hu; simp at hu; rcases hu with rfl | rfl | rfl <;> rfl
      case k3 => unfold maxLen; omega
      case k4 => omega
      case k5 => have := zW2.out; simp; omega
      intro v7 w7 hown7 hgr7 hloc7
      have gg : W2.grownBy w7 (some g) := (World.grownBy_alloc W2 _ _).trans hgr7
      obtain ⟨L, hL⟩ : ∃ L, l ++ [((pr : Int), (pf' : Int), (pt : Int))] = L := ⟨_, rfl⟩
      have hLl : L.length = l.length + 1 := by rw [← hL]; simp
      have hLo : OffR w7 C v7 L := by unfold OffR; rw [hLl, ← hL, fCells_append]; exact hown7
      have HBL : Hid (BS L) := hid (by rw [← hL]; exact hbr.bs.snoc _ _ _ (by omega))
      obtain ⟨g7, o7, c7, rfl, _, hc7, hc7', hg7, _⟩ := hLo.fs
      have hloc : g7 = g ∨ W2.heap.size ≤ g7 := by
        rcases hloc7 with q | q
        · simp [Value.ownBlock] at q; exact .inl q
        · simp [Value.ownBlock] at q; exact .inr (by omega)
      have zz2 := zW2.out
      obtain ⟨⟨d3, d3z, d74, d73⟩, mid⟩ := spoil_mid gg hLo hloc (b3 := w.heap.size) (b4 := w.heap.size + 1) (b7 := w1.heap.size) (ii := ii) (by omega) (by omega) (by omega) hgn0 hgn1 (by omega) (by omega) (by omega) (by omega) hg0 (by omega) n0 u0 n1 u1 q0 q1 q2
      obtain ⟨W8, hW8⟩ : ∃ W8, w7.setCell ⟨w.heap.size, 0, none⟩ (.slice (some ⟨g7, o7, none⟩) L.length c7) = W8 := ⟨_, rfl⟩
      obtain ⟨s3, s4, s4z, t0, t1, t2, o8, b8⟩ := mid W8 hW8
      obtain ⟨⟨x0', x1', x2'⟩, z0', z1'', z2'⟩ := o8.at ii (by omega)
      have i3 : (ii : Int) < (L.length : Int) := by omega
      have HO8 := hid o8
      have HB8 : Hid (Below C w1 W8) := hid ((HB2.out.mono (by omega)).trans b8)
      have HLl := hid hLl
      have HD := hid d74
      clear hown7 hgr7 hloc7 gg hLo hLl hL mid o8 b8 n0 n1 u0 u1 q0 q1 q2 x0 x1 x2 z0 z1' z2 HO2 HNW zz2 hloc m0 m1 y0 y1 hW2
      go_wp2_with fail
      obtain ⟨o1, o2, o3⟩ := spoil_end2 (ii := ii) HO8.out (by have := HLl.out; omega) s4 HD.out (by omega) (pr : Int) (pf' : Int) (pt : Int)
      obtain ⟨q1, q2⟩ := key.out _ (HB8.out.trans o2)
      refine bodyPost_ret (v := .agg #[.slice (some ⟨g7, o7, none⟩) L.length c7]) (by simp [results, Tryz.results30, go_sem, o3]) rfl ?_
      exact ⟨_, _, rfl, o1, by rw [List.length_set]; have := HLl.out; omega, HBL.out.set ii _ _ _ (by omega), q1, q2⟩
    | 6, _ =>
      obtain ⟨W2, hW2⟩ : ∃ W2, w1.alloc (.cells #[.int .i64 (pr : Int), .int .i64 (pf' : Int), .int .i64 (pt : Int)] 41) = W2 := ⟨_, rfl⟩
      have b2 : Below w1.heap.size w1 W2 := by rw [← hW2]; exact (Below.refl _ _).alloc (Nat.le_refl _) _
      have zW2 : Hid (W2.heap.size = w1.heap.size + 1) := by rw [← hW2]; exact hid (by simp)
      have q0 : W2.cell? ⟨w1.heap.size, 0, none⟩ = some (.int .i64 (pr : Int)) := by rw [← hW2]; simp
      have q1 : W2.cell? ⟨w1.heap.size, 1, none⟩ = some (.int .i64 (pf' : Int)) := by rw [← hW2]; simp
      have q2 : W2.cell? ⟨w1.heap.size, 2, none⟩ = some (.int .i64 (pt : Int)) := by rw [← hW2]; simp
      have n0 := (b2.cell (p := ⟨w.heap.size, 0, none⟩) zz0).trans m0
      have n1 := (b2.cell (p := ⟨w.heap.size + 1, 0, none⟩) zz).trans m1
      have u0 := (b2.frozen (p := ⟨w.heap.size, 0, none⟩) zz0).trans y0
      have u1 := (b2.frozen (p := ⟨w.heap.size + 1, 0, none⟩) zz).trans y1
      have ho2 : OffR W2 C (.slice (some ⟨g, off, none⟩) l.length c) l := OffV.below HO1.out b2 (Nat.le_refl _)
      obtain ⟨⟨e0, e1, e2⟩, _⟩ := ho2.at 0 (by omega)
      rw [Nat.zero_mul, Nat.add_zero] at e0 e1 e2
      have hp0 := hbr (gR l 0) (gR_mem (show 0 < l.length by omega))
      obtain ⟨fr, hfr⟩ : ∃ fr : Int, (gR l 0).1 = fr := ⟨_, rfl⟩
      obtain ⟨ff, hff⟩ : ∃ ff : Int, (gR l 0).2.1 = ff := ⟨_, rfl⟩
      obtain ⟨ft, hft⟩ : ∃ ft : Int, (gR l 0).2.2 = ft := ⟨_, rfl⟩
      rw [hfr] at e0 hp0
      rw [hff] at e1 hp0
      rw [hft] at e2 hp0
      have zza : w.heap.size < W2.heap.size := by have := zW2.out; omega
      have zzg : g < W2.heap.size := by have := zW2.out; omega
      have i4 : 0 < l.length := by omega
      have i4' : (0 < l.length) = True := by simp; omega
      have HO2 := hid (OffV.below ho2 ((Below.refl W2.heap.size W2).alloc (Nat.le_refl _) (.cells #[.int .i64 fr, .int .i64 ff, .int .i64 ft] 41)) (Nat.le_refl _))
      have HNW := hid (cell3A W2 (.int .i64 fr) (.int .i64 ff) (.int .i64 ft) 41)
      have HB2 := hid b2
      clear b2 ho2 hfr hff hft
      go_wp2_with fail
      have HL1 : Hid (∀ u ∈ [Value.int .i64 fr, .int .i64 ff, .int .i64 ft], u.oneCell' = true) := hid (fun u hu => by simp at hu; rcases hu with rfl | rfl | rfl <;> rfl)
      have HL3 : Hid (l.length + 1 ≤ maxLen) := hid (by unfold maxLen; omega)
      have HL4 : Hid ((l.length + 1) * 24 ≤ 140737488355328) := hid (by omega)
      have HL5 : Hid (C ≤ ((W2.alloc (.cells #[.int .i64 fr, .int .i64 ff, .int .i64 ft] 41)).drew).heap.size) := hid (by have := zW2.out; show C ≤ (W2.alloc _).heap.size; simp; omega)
      have HO3 : Hid (OffV (W2.alloc (.cells #[.int .i64 fr, .int .i64 ff, .int .i64 ft] 41)).drew C 3 (.slice (some ⟨g, off, none⟩) l.length c) l.length (fCells l)) := hid (OffV.below HO2.out (Below.refl _ _).drew (Nat.le_refl _))
      have HMID : Hid (∀ (g7 o7 c7 : Nat) (w7 : World), OffV w7 C 3 (.slice (some ⟨g7, o7, none⟩) (l.length + 1) c7) (l.length + 1) (fCells l ++ [.int .i64 fr, .int .i64 ff, .int .i64 ft]) → (W2.alloc (.cells #[.int .i64 fr, .int .i64 ff, .int .i64 ft] 41)).drew.grownBy w7 (some g) → (some g7 = some g ∨ g7 = W2.heap.size + 1) → (w7.cell? ⟨w.heap.size, 0, none⟩ = some (.slice (some ⟨g, off, none⟩) l.length c) ∧ w7.frozen? ⟨w.heap.size, 0, none⟩ = false ∧ g7 ≠ w.heap.size + 1 ∧ g7 ≠ w.heap.size) ∧ ∀ W8, w7.setCell ⟨w.heap.size, 0, none⟩ (.slice (some ⟨g7, o7, none⟩) (l.length + 1) c7) = W8 →
          W8.cell? ⟨w.heap.size, 0, none⟩ = some (.slice (some ⟨g7, o7, none⟩) (l.length + 1) c7) ∧ W8.cell? ⟨w.heap.size + 1, 0, none⟩ = some (.slice none 0 0) ∧ W8.frozen? ⟨w.heap.size + 1, 0, none⟩ = false ∧ W8.cell? ⟨w1.heap.size, 0, none⟩ = some (.int .i64 (pr : Int)) ∧ W8.cell? ⟨w1.heap.size, 1, none⟩ = some (.int .i64 (pf' : Int)) ∧ W8.cell? ⟨w1.heap.size, 2, none⟩ = some (.int .i64 (pt : Int)) ∧ OffR W8 C (.slice (some ⟨g7, o7, none⟩) (l.length + 1) c7) (l ++ [(fr, ff, ft)]) ∧ Below C w1 W8) := hid (by
        intro g7 o7 c7 w7 hown hgr hloc
        have zz2 := zW2.out
        have gg : W2.grownBy w7 (some g) := (World.grownBy_alloc W2 _ _).trans ((show (W2.alloc (.cells #[.int .i64 fr, .int .i64 ff, .int .i64 ft] 41)).grownBy (W2.alloc (.cells #[.int .i64 fr, .int .i64 ff, .int .i64 ft] 41)).drew (some g) from ⟨rfl, rfl, rfl, Nat.le_refl _, fun _ _ _ => rfl⟩).trans hgr)
        have hLl : (l ++ [(fr, ff, ft)]).length = l.length + 1 := by simp
        have hLo : OffR w7 C (.slice (some ⟨g7, o7, none⟩) (l ++ [(fr, ff, ft)]).length c7) (l ++ [(fr, ff, ft)]) := by unfold OffR; rw [hLl, fCells_append]; exact hown
        obtain ⟨m1, m2⟩ := spoil_mid gg hLo (by rcases hloc with q | q; exact .inl (by injection q); exact .inr (by omega)) (b3 := w.heap.size) (b4 := w.heap.size + 1) (b7 := w1.heap.size) (ii := ii) (by omega) (by omega) (by omega) hgn0 hgn1 (by omega) (by omega) (by omega) (by omega) hg0 (by omega) n0 u0 n1 u1 q0 q1 q2
        rw [hLl] at m2
        refine ⟨m1, fun W8 h8 => ?_⟩
        obtain ⟨s3, s4, s4z, t0, t1, t2, o8, b8⟩ := m2 W8 h8
        exact ⟨s3, s4, s4z, t0, t1, t2, o8, (HB2.out.mono (by omega)).trans b8⟩)
      go_region_law (
        refine step_app_off (w := (W2.alloc (.cells #[.int .i64 fr, .int .i64 ff, .int .i64 ft] 41)).drew) rfl _ _ 23 rfl C 41 i0 _ 3 24 Tryz.underlying23 hi0 iz0 iz1 iz2 rfl _ _ _ rfl HO3.out ⟨W2.heap.size, 0, none⟩ 1 1 [.int .i64 fr, .int .i64 ff, .int .i64 ft] rfl rfl HNW.out HL1.out HL3.out HL4.out HL5.out ?_
        intro g7 o7 c7 w7 hown7 hgr7 hloc7
        obtain ⟨⟨d3, d3z, d74, d73⟩, mid⟩ := HMID.out g7 o7 c7 w7 hown7 hgr7 (by rcases hloc7 with q | q; exact .inl q; exact .inr (by injection q with q; simpa using q)))
      all_goals (
        obtain ⟨W8, hW8⟩ : ∃ W8, w7.setCell ⟨w.heap.size, 0, none⟩ (.slice (some ⟨g7, o7, none⟩) (l.length + 1) c7) = W8 := ⟨_, rfl⟩
        obtain ⟨s3, s4, s4z, t0, t1, t2, o8, b8⟩ := mid W8 hW8
        rw [hW8]
        have hLl : (l ++ [(fr, ff, ft)]).length = l.length + 1 := by simp
        obtain ⟨⟨x0', x1', x2'⟩, z0', z1'', z2'⟩ := o8.at ii (by omega)
        have i3 : (ii : Int) < ((l.length : Nat) : Int) + 1 := by omega
        rw [← hLl] at o8
        have HO8 := hid o8
        have HB8 := hid b8
        have HLl := hid hLl
        have HD := hid d74
        clear hown7 hgr7 hloc7 hLl mid o8 b8 n0 n1 u0 u1 q0 q1 q2 x0 x1 x2 z0 z1' z2 HO2 HO3 HNW m0 m1 y0 y1 hW2 HMID e0 e1 e2 hW8 d3 d3z
        go_wp2_with fail
        obtain ⟨o1, o2, o3⟩ := spoil_end2 (ii := ii) HO8.out (by have := HLl.out; omega) s4 HD.out (by omega) (pr : Int) (pf' : Int) (pt : Int)
        rw [HLl.out] at o1 o2 o3
        obtain ⟨q1, q2⟩ := key.out _ (HB8.out.trans o2)
        refine bodyPost_ret (v := .agg #[.slice (some ⟨g7, o7, none⟩) (l.length + 1) c7]) (by simp [results, Tryz.results30, go_sem, o3]) rfl ?_
        exact ⟨_, _, rfl, o1, by rw [List.length_set]; have := HLl.out; omega, (hbr.bs.snoc fr ff ft (by omega)).set ii _ _ _ (by omega), q1, q2⟩)
    | 7, _ =>
      obtain ⟨a, ha⟩ : ∃ a : Int, (pf' : Int) - 1 = a := ⟨_, rfl⟩
      have wa : IntKind.i64.wrap ((pf' : Int) - 1) = a := by rw [IntKind.wrap_i64]; omega
      go_wp2_with fail
      obtain ⟨o1, o2, o3⟩ := spoil_end HO1.out hil m1 hgn1 (by omega) zz ((pr : Int)) (a) ((pt : Int)) (.cells #[.int .i64 ((pr : Int)), .int .i64 (a), .int .i64 ((pt : Int))] 41)
      obtain ⟨q1, q2⟩ := key.out _ o2
      refine bodyPost_ret (v := .agg #[.slice (some ⟨g, off, none⟩) l.length c]) (by simp [results, Tryz.results30, go_sem, o3]) rfl ?_
      exact ⟨_, _, rfl, o1, by rw [List.length_set]; omega, hbr.bs.set ii _ _ _ (by omega), q1, q2⟩
end Go.Proofs.YtbimcammjohaoadGreatDoor

namespace Go.Proofs.YtbimcammjohaoadGreatDoor
open Go.ChangeShapes Go.WideShapes Go.ChangeAt Go.RowKit Go.Maps Go.Sort
set_option linter.unusedVariables false
set_option linter.unusedSimpArgs false

theorem FrB.cell {w w' : World} {C rb : Nat} (h : FrB w w' C rb) {b i : Nat} (hb : b < C) (hn : b ≠ rb) : w'.cell? ⟨b, i, none⟩ = w.cell? ⟨b, i, none⟩ := World.cell?_of_block (h.block b hb hn)
theorem FrB.frozen {w w' : World} {C rb : Nat} (h : FrB w w' C rb) {b i : Nat} (hb : b < C) (hn : b ≠ rb) : w'.frozen? ⟨b, i, none⟩ = w.frozen? ⟨b, i, none⟩ := World.frozen?_of_block (h.block b hb hn)
theorem OffV.frb {w w' : World} {B C rb size : Nat} {v : Value} {n : Nat} {xs : List Value} (h : OffV w B size v n xs) (hf : FrB w w' C rb) (hC : w.heap.size ≤ C) (hrb : rb < B) : OffV w' B size v n xs := by
  obtain ⟨g, off, c, rfl, hB, hlt, hn, hc, hl, h1, h2, h3⟩ := h
  have e := hf.block g (by omega) (by omega)
  exact ⟨g, off, c, rfl, hB, Nat.lt_of_lt_of_le hlt hf.size, hn, hc, hl, fun j hj => (World.cell?_of_block (a := ⟨g, off + j, none⟩) e).trans (h1 j hj), fun j hj => by rw [World.cell?_of_block (a := ⟨g, off + j, none⟩) e]; exact h2 j hj, fun j hj => (World.frozen?_of_block (a := ⟨g, off + j, none⟩) e).trans (h3 j hj)⟩
theorem FrB.of_gr {w w' : World} {C rb : Nat} (h : w.grownBy w' (some rb)) (hC : C ≤ w.heap.size) : FrB w w' C rb := ⟨h.os, h.tape, h.output, h.size, fun k hk hn => h.block k (by omega) (fun e => hn (by injection e))⟩
theorem FrB.of_b {w w' : World} {C rb : Nat} (h : Below C w w') : FrB w w' C rb := ⟨h.os, h.tape, h.output, h.size, fun k hk _ => h.block k hk⟩
theorem FrB.trans {w w1 w2 : World} {C C' rb : Nat} (h : FrB w w1 C rb) (h' : FrB w1 w2 C' rb) (hC : C ≤ C') : FrB w w2 C rb := ⟨h'.os.trans h.os, h'.tape.trans h.tape, h'.output.trans h.output, Nat.le_trans h.size h'.size, fun k hk hn => (h'.block k (by omega) hn).trans (h.block k hk hn)⟩
theorem FrB.set {w : World} {C rb : Nat} {b : Nat} (hb : C ≤ b) (u : Value) : FrB w (w.setCell ⟨b, 0, none⟩ u) C rb := FrB.of_b ((Below.refl _ _).setCell (p := ⟨b, 0, none⟩) hb _)
theorem grown_set0 (w : World) (b : Nat) (u : Value) : w.grownBy (w.setCell ⟨b, 0, none⟩ u) (some b) := ⟨rfl, rfl, rfl, by simp [World.setCell], fun k hk hne => Below.heap_setCell _ _ _ _ (fun e => hne (by rw [e]))⟩

set_option maxRecDepth 100000 in
set_option maxHeartbeats 2000000 in
theorem drawAny (B rb : Nat) (w : World) (h : Rd w B rb) (hB : B ≤ w.heap.size) :
    Calls Tryz.prog 15 #[.pointer (some ⟨rb, 0, none⟩)] w fun e w' => ∃ v l, e = .returned (.agg #[v]) ∧ OffR w' (w.heap.size + 1) v l ∧ l.length ≤ 1001 ∧ BS l ∧ Rd w' B rb ∧ FrB w w' w.heap.size rb := by
  obtain ⟨W, hW⟩ : ∃ W, w.alloc (.cells #[.slice none 0 0] 25) = W := ⟨_, rfl⟩
  have bW : Below w.heap.size w W := by rw [← hW]; exact (Below.refl _ _).alloc (Nat.le_refl _) _
  have k0 : W.cell? ⟨w.heap.size, 0, none⟩ = some (.slice none 0 0) := by rw [← hW]; simp
  have f0 : W.frozen? ⟨w.heap.size, 0, none⟩ = false := by rw [← hW]; simp
  have zW : Hid (W.heap.size = w.heap.size + 1) := by rw [← hW]; exact hid (by simp)
  have hrb := h.lt
  have HR := hid (h.below (bW.mono hB))
  have HBW := hid bW
  clear h bW
  go_enter Tryz.func15, Tryz.ntmps15
  go_wp2_with fail
  try rw [hW]
  clear hW
  refine (rdNext B rb W HR.out).mono ?_
  rintro e w1 ⟨k, hk, rfl, r1, g1⟩
  have z1 := g1.size
  have HZ1 : Hid (w.heap.size + 1 ≤ w1.heap.size) := hid (by have := zW.out; omega)
  have F1 : Hid (FrB w w1 w.heap.size rb) := hid ((FrB.of_b HBW.out).trans (FrB.of_gr g1 HBW.out.size) (Nat.le_refl _))
  have nb : some w.heap.size ≠ some rb := fun e => by injection e with e; omega
  have e1 := g1.block w.heap.size (by have := zW.out; omega) nb
  have c1 := (World.cell?_of_block (a := ⟨w.heap.size, 0, none⟩) e1).trans k0
  have y1 := (World.frozen?_of_block (a := ⟨w.heap.size, 0, none⟩) e1).trans f0
  have HD := hid (drawCtx B rb w1 r1 (by have := HZ1.out; omega))
  clear r1 g1 e1 k0 f0 HR HBW
  go_wp2_with fail
  refine HD.out.mono ?_
  rintro e w2 ⟨v, l, rfl, o2, hl2, hbr, r2, g2⟩
  obtain ⟨g, off, c, rfl, _, hc1, hc2, hg0, hg1⟩ := o2.fs
  have z2 := g2.size
  have e2 := g2.block w.heap.size (by have := HZ1.out; omega) nb
  have c2 := (World.cell?_of_block (a := ⟨w.heap.size, 0, none⟩) e2).trans c1
  have y2 := (World.frozen?_of_block (a := ⟨w.heap.size, 0, none⟩) e2).trans y1
  obtain ⟨W3, hW3⟩ : ∃ W3, w2.alloc (.cells #[.slice (some ⟨g, off, none⟩) l.length c] 25) = W3 := ⟨_, rfl⟩
  have b3 : Below w2.heap.size w2 W3 := by rw [← hW3]; exact (Below.refl _ _).alloc (Nat.le_refl _) _
  have zw2 : w.heap.size < w2.heap.size := by have := HZ1.out; omega
  have c3 := (b3.cell (p := ⟨w.heap.size, 0, none⟩) zw2).trans c2
  have y3 := (b3.frozen (p := ⟨w.heap.size, 0, none⟩) zw2).trans y2
  have q3 : W3.cell? ⟨w2.heap.size, 0, none⟩ = some (.slice (some ⟨g, off, none⟩) l.length c) := by rw [← hW3]; simp
  have HO3 : Hid (OffR W3 (w1.heap.size + 1) (.slice (some ⟨g, off, none⟩) l.length c) l) := hid (OffV.below o2 b3 (Nat.le_refl _))
  have HR3 := hid (r2.below (b3.mono (by omega)))
  have F3 : Hid (FrB w W3 w.heap.size rb) := hid ((F1.out.trans (FrB.of_gr g2 (Nat.le_refl _)) (by have := HZ1.out; omega)).trans (FrB.of_b b3) (by omega))
  have HZ3 : Hid (w1.heap.size + 1 ≤ W3.heap.size) := hid (by have := b3.size; omega)
  clear o2 r2 g2 e2 b3 c1 c2 y1 y2 HD F1
  by_cases h7 : k % 8 = 7
  · have d7 : ((k : Int) % 8 == 7) = true := by simp; omega
    have HS := hid (spoilC B rb (w1.heap.size + 1) _ l W3 HR3.out (by have := HZ1.out; omega) HZ3.out HO3.out hl2 hbr)
    go_wp2_with fail
    refine HS.out.mono ?_
    rintro e w4 ⟨v', l', rfl, o4, hl4, hbs, r4, f4⟩
    obtain ⟨g', off', c', rfl, _, _, _, hg0', _⟩ := o4.fs
    have c4 := (f4.cell (b := w.heap.size) (i := 0) (by have := HZ1.out; omega) (by omega)).trans c3
    have y4 := (f4.frozen (b := w.heap.size) (i := 0) (by have := HZ1.out; omega) (by omega)).trans y3
    have fin : Hid (OffR (w4.setCell ⟨w.heap.size, 0, none⟩ (.slice (some ⟨g', off', none⟩) l'.length c')) (w.heap.size + 1) (.slice (some ⟨g', off', none⟩) l'.length c') l' ∧ Rd (w4.setCell ⟨w.heap.size, 0, none⟩ (.slice (some ⟨g', off', none⟩) l'.length c')) B rb ∧ FrB w (w4.setCell ⟨w.heap.size, 0, none⟩ (.slice (some ⟨g', off', none⟩) l'.length c')) w.heap.size rb ∧ (w4.setCell ⟨w.heap.size, 0, none⟩ (.slice (some ⟨g', off', none⟩) l'.length c')).cell? ⟨w.heap.size, 0, none⟩ = some (.slice (some ⟨g', off', none⟩) l'.length c')) := hid (by
      have q := HZ1.out
      exact ⟨OffV.gr (OffV.weak o4 (by omega)) (grown_set0 _ _ _) (fun e => by simp [Value.ownBlock] at e; omega), r4.below (((Below.refl w.heap.size w4).setCell (p := ⟨w.heap.size, 0, none⟩) (Nat.le_refl _) _).mono hB), (F3.out.trans f4 (by omega)).trans (FrB.set (Nat.le_refl _) _) (Nat.le_refl _), World.cell?_setCell_same _ _ _ c4⟩)
    clear o4 r4 f4 HS hW3
    go_wp2_with fail
    obtain ⟨f1, f2, f3, f4⟩ := fin.out
    refine bodyPost_ret (v := .agg #[.slice (some ⟨g', off', none⟩) l'.length c']) (by simp [results, Tryz.results15, go_sem, f4]) rfl ?_
    exact ⟨_, _, rfl, f1, hl4, hbs, f2, f3⟩
  · have d7 : ((k : Int) % 8 == 7) = false := by simp; omega
    have fin : Hid (OffR (W3.setCell ⟨w.heap.size, 0, none⟩ (.slice (some ⟨g, off, none⟩) l.length c)) (w.heap.size + 1) (.slice (some ⟨g, off, none⟩) l.length c) l ∧ Rd (W3.setCell ⟨w.heap.size, 0, none⟩ (.slice (some ⟨g, off, none⟩) l.length c)) B rb ∧ FrB w (W3.setCell ⟨w.heap.size, 0, none⟩ (.slice (some ⟨g, off, none⟩) l.length c)) w.heap.size rb ∧ (W3.setCell ⟨w.heap.size, 0, none⟩ (.slice (some ⟨g, off, none⟩) l.length c)).cell? ⟨w.heap.size, 0, none⟩ = some (.slice (some ⟨g, off, none⟩) l.length c)) := hid (by
      have q := HZ1.out
      exact ⟨OffV.gr (OffV.weak HO3.out (by omega)) (grown_set0 _ _ _) (fun e => by simp [Value.ownBlock] at e; omega), HR3.out.below (((Below.refl w.heap.size W3).setCell (p := ⟨w.heap.size, 0, none⟩) (Nat.le_refl _) _).mono hB), F3.out.trans (FrB.set (Nat.le_refl _) _) (Nat.le_refl _), World.cell?_setCell_same _ _ _ c3⟩)
    go_wp2_with fail
    obtain ⟨f1, f2, f3, f4⟩ := fin.out
    refine bodyPost_ret (v := .agg #[.slice (some ⟨g, off, none⟩) l.length c]) (by simp [results, Tryz.results15, go_sem, f4]) rfl ?_
    exact ⟨_, _, rfl, f1, by omega, hbr.bs, f2, f3⟩

set_option maxRecDepth 100000 in
set_option maxHeartbeats 2000000 in
theorem drawUnion (a : Option Addr) (n c : Nat) (f : Nat → Int) (w : World) (hnc : n ≤ c) (hn : n ≤ 9223372036854775807) (h : Seg w a n f) (hf : Byt f) :
    Calls Tryz.prog 4 #[.slice a n c] w fun e w' => ∃ v l v' l', e = .returned (.tuple #[.agg #[v], .agg #[v']]) ∧ OffR w' w.heap.size v l ∧ OffR w' w.heap.size v' l' ∧ l.length ≤ 1001 ∧ l'.length ≤ 1001 ∧ BS l ∧ BS l' ∧ Below w.heap.size w w' := by
  obtain ⟨W, hW⟩ : ∃ W, (w.alloc (.cells #[.slice none 0 0] 25)).alloc (.cells #[.slice none 0 0] 25) = W := ⟨_, rfl⟩
  have bW : Below w.heap.size w W := by rw [← hW]; exact below2 _ _ _
  have k0 : W.cell? ⟨w.heap.size, 0, none⟩ = some (.slice none 0 0) := by rw [← hW]; simp
  have k1 : W.cell? ⟨w.heap.size + 1, 0, none⟩ = some (.slice none 0 0) := by rw [← hW]; simp
  have f0 : W.frozen? ⟨w.heap.size, 0, none⟩ = false := by rw [← hW]; simp
  have f1 : W.frozen? ⟨w.heap.size + 1, 0, none⟩ = false := by rw [← hW]; simp
  have zW : W.heap.size = w.heap.size + 2 := by rw [← hW]; simp
  have HO := hid (rdOpen a n c f W hnc hn (h.below bW) hf)
  have HBW := hid bW
  have HZW := hid zW
  clear h hf bW zW
  go_enter Tryz.func4, Tryz.ntmps4
  go_wp2_with fail
  try rw [hW]
  clear hW
  refine HO.out.mono ?_
  rintro e w1 ⟨rfl, r1, b1⟩
  obtain ⟨rb, hrb⟩ : ∃ rb, W.heap.size = rb := ⟨_, rfl⟩
  have c10 := (b1.cell (p := ⟨w.heap.size, 0, none⟩) (show w.heap.size < W.heap.size by have := HZW.out; omega)).trans k0
  have c11 := (b1.cell (p := ⟨w.heap.size + 1, 0, none⟩) (show w.heap.size + 1 < W.heap.size by have := HZW.out; omega)).trans k1
  have y10 := (b1.frozen (p := ⟨w.heap.size, 0, none⟩) (show w.heap.size < W.heap.size by have := HZW.out; omega)).trans f0
  have y11 := (b1.frozen (p := ⟨w.heap.size + 1, 0, none⟩) (show w.heap.size + 1 < W.heap.size by have := HZW.out; omega)).trans f1
  have HB1 := hid (keepS HBW.out b1)
  have hz1 := b1.size
  have hlt1 := r1.lt
  rw [hrb] at r1 hz1 hlt1 HZW ⊢
  have HD := hid (drawAny (rb + 1) rb w1 r1 (by omega))
  clear b1 k0 k1 f0 f1 HO HBW hrb r1
  go_wp2_with fail
  refine HD.out.mono ?_
  rintro e w2 ⟨v, l, rfl, o2, hl2, hb2, r2, fr2⟩
  obtain ⟨g, off, cc, rfl, _, _, _, hg0, hg1⟩ := o2.fs
  obtain ⟨W3, hW3⟩ : ∃ W3, w2.alloc (.cells #[.slice (some ⟨g, off, none⟩) l.length cc] 25) = W3 := ⟨_, rfl⟩
  have b3 : Below w2.heap.size w2 W3 := by rw [← hW3]; exact (Below.refl _ _).alloc (Nat.le_refl _) _
  have z3 : W3.heap.size = w2.heap.size + 1 := by rw [← hW3]; simp
  have q3 : W3.cell? ⟨w2.heap.size, 0, none⟩ = some (.slice (some ⟨g, off, none⟩) l.length cc) := by rw [← hW3]; simp
  have zz2 := fr2.size
  have zr := HZW.out
  have F3 : Hid (FrB w1 W3 w1.heap.size rb) := hid (fr2.trans (FrB.of_b b3) zz2)
  have HO3 : Hid (OffR W3 (w1.heap.size + 1) (.slice (some ⟨g, off, none⟩) l.length cc) l) := hid (OffV.below o2 b3 (Nat.le_refl _))
  have HD2 := hid (drawAny (rb + 1) rb W3 (r2.below (b3.mono (by omega))) (by omega))
  have HZ3 := hid z3
  have HZZ := hid (And.intro zz2 (And.intro hz1 (And.intro hlt1.1 zr)))
  have HW3 := hid hW3
  clear o2 r2 fr2 b3 HD z3 hW3 zz2 hz1 hlt1 zr
  go_wp2_with fail
  rw [HW3.out]
  clear HW3
  refine HD2.out.mono ?_
  rintro e w4 ⟨v', l', rfl, o4, hl4, hb4, r4, fr4⟩
  obtain ⟨g', off', cc', rfl, _, _, _, hg0', hg1'⟩ := o4.fs
  obtain ⟨zz2, hz1, hlt1, zr⟩ := HZZ.out
  have z3 := HZ3.out
  have z4 := fr4.size
  obtain ⟨W5, hW5⟩ : ∃ W5, w4.alloc (.cells #[.slice (some ⟨g', off', none⟩) l'.length cc'] 25) = W5 := ⟨_, rfl⟩
  have b5 : Below w4.heap.size w4 W5 := by rw [← hW5]; exact (Below.refl _ _).alloc (Nat.le_refl _) _
  have F5 : FrB w1 W5 w1.heap.size rb := (F3.out.trans fr4 (by omega)).trans (FrB.of_b b5) (by omega)
  have c50 := (F5.cell (b := w.heap.size) (i := 0) (by omega) (by omega)).trans c10
  have c51 := (F5.cell (b := w.heap.size + 1) (i := 0) (by omega) (by omega)).trans c11
  have y50 := (F5.frozen (b := w.heap.size) (i := 0) (by omega) (by omega)).trans y10
  have y51 := (F5.frozen (b := w.heap.size + 1) (i := 0) (by omega) (by omega)).trans y11
  have q5 : W5.cell? ⟨w2.heap.size, 0, none⟩ = some (.slice (some ⟨g, off, none⟩) l.length cc) := (b5.cell (p := ⟨w2.heap.size, 0, none⟩) (show w2.heap.size < w4.heap.size by omega)).trans ((fr4.cell (b := w2.heap.size) (i := 0) (by omega) (by omega)).trans q3)
  have q6 : W5.cell? ⟨w4.heap.size, 0, none⟩ = some (.slice (some ⟨g', off', none⟩) l'.length cc') := by rw [← hW5]; simp
  have OA : Hid (OffR W5 (w1.heap.size + 1) (.slice (some ⟨g, off, none⟩) l.length cc) l) := hid (OffV.below (OffV.frb HO3.out fr4 (Nat.le_refl _) (by omega)) b5 (Nat.le_refl _))
  have OB : Hid (OffR W5 (W3.heap.size + 1) (.slice (some ⟨g', off', none⟩) l'.length cc') l') := hid (OffV.below o4 b5 (Nat.le_refl _))
  have HBF : Hid (Below w.heap.size w W5) := hid (HB1.out.trans ⟨F5.os, F5.tape, F5.output, F5.size, fun k hk => F5.block k (by omega) (by omega)⟩)
  have HW5 := hid hW5
  clear F5 o4 r4 fr4 b5 q3 HD2 hW5 c10 c11 y10 y11
  go_wp2_with fail
  rw [HW5.out]
  clear HW5
  go_region
  have hgA : g ≠ w.heap.size ∧ g ≠ w.heap.size + 1 := by omega
  have hgB : g' ≠ w.heap.size ∧ g' ≠ w.heap.size + 1 := by omega
  obtain ⟨W6, hW6⟩ : ∃ W6, ((W5.setCell ⟨w.heap.size, 0, none⟩ (.slice (some ⟨g, off, none⟩) l.length cc)).setCell ⟨w.heap.size + 1, 0, none⟩ (.slice (some ⟨g', off', none⟩) l'.length cc')).drew = W6 := ⟨_, rfl⟩
  have kz0 : W6.cell? ⟨w.heap.size, 0, none⟩ = some (.slice (some ⟨g, off, none⟩) l.length cc) := by
    rw [← hW6]
    exact (World.cell?_setCell_other _ _ _ _ (by intro e; injection e with e; omega)).trans (World.cell?_setCell_same _ _ _ c50)
  have kz1 : W6.cell? ⟨w.heap.size + 1, 0, none⟩ = some (.slice (some ⟨g', off', none⟩) l'.length cc') := by
    rw [← hW6]
    exact World.cell?_setCell_same _ _ _ ((World.cell?_setCell_other _ _ _ _ (by intro e; injection e with e; omega)).trans c51)
  have bd : ∀ X : World, Below X.heap.size X X.drew := fun X => (Below.refl _ _).drew
  have OA6 : Hid (OffR W6 w.heap.size (.slice (some ⟨g, off, none⟩) l.length cc) l) := hid (by
    rw [← hW6]
    exact OffV.below (OffV.gr (OffV.gr (OffV.weak OA.out (by omega)) (grown_set0 _ _ _) (fun e => by simp [Value.ownBlock] at e; omega)) (grown_set0 _ _ _) (fun e => by simp [Value.ownBlock] at e; omega)) (bd _) (Nat.le_refl _))
  have OB6 : Hid (OffR W6 w.heap.size (.slice (some ⟨g', off', none⟩) l'.length cc') l') := hid (by
    rw [← hW6]
    exact OffV.below (OffV.gr (OffV.gr (OffV.weak OB.out (by omega)) (grown_set0 _ _ _) (fun e => by simp [Value.ownBlock] at e; omega)) (grown_set0 _ _ _) (fun e => by simp [Value.ownBlock] at e; omega)) (bd _) (Nat.le_refl _))
  have HB6 : Hid (Below w.heap.size w W6) := hid (by
    rw [← hW6]
    exact ((HBF.out.setCell (p := ⟨w.heap.size, 0, none⟩) (Nat.le_refl _) _).setCell (p := ⟨w.heap.size + 1, 0, none⟩) (show w.heap.size ≤ w.heap.size + 1 by omega) _).drew)
  rw [hW6]
  clear hW6
  go_wp2_with fail
  refine bodyPost_ret (v := .tuple #[.agg #[.slice (some ⟨g, off, none⟩) l.length cc], .agg #[.slice (some ⟨g', off', none⟩) l'.length cc']]) (by simp [results, Tryz.results4, go_sem, kz0, kz1]) rfl ?_
  exact ⟨_, l, _, l', rfl, OA6.out, OB6.out, hl2, hl4, hb2, hb4, HB6.out⟩
end Go.Proofs.YtbimcammjohaoadGreatDoor
