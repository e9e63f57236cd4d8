import Derived.Test.YtbimcammjohaoaeNwH
import Derived.OneCell
namespace Go.Proofs.Ytbimcammjohaoae.fnExactNewWorld
open Go.ChangeShapes Go.WideShapes Go.ChangeAt Go.RowKit
set_option linter.unusedVariables false
set_option linter.unusedSimpArgs false

def plI (a b : Nat) : List (Nat × Nat) := ((List.range b).filter (fun t => decide (t ≠ a))).map (fun t => (a, t))
def plO (n a : Nat) : List (Nat × Nat) := (List.range a).flatMap (fun f => plI f n)
theorem plI_zero (a : Nat) : plI a 0 = [] := rfl
theorem plO_zero (n : Nat) : plO n 0 = [] := rfl
theorem plO_succ (n a : Nat) : plO n (a + 1) = plO n a ++ plI a n := by simp [plO, List.range_succ]
theorem plI_same (a : Nat) : plI a (a + 1) = plI a a := by simp [plI, List.range_succ, List.filter_append]
theorem plI_succ (a b : Nat) (h : b ≠ a) : plI a (b + 1) = plI a b ++ [(a, b)] := by simp [plI, List.range_succ, List.filter_append, h]
theorem plI_len (a b : Nat) : (plI a b).length ≤ b := by
  unfold plI; rw [List.length_map]; exact Nat.le_trans (List.length_filter_le _ _) (by simp)
theorem plO_len (n : Nat) : ∀ a, (plO n a).length ≤ a * n
  | 0 => by simp [plO]
  | a + 1 => by
    rw [plO_succ, List.length_append, Nat.succ_mul]
    have := plO_len n a; have := plI_len a n; omega
def pf (L : List (Nat × Nat)) (i c : Nat) : Int := if c = 0 then ((L.getD i (0, 0)).1 : Int) else if c = 1 then ((L.getD i (0, 0)).2 : Int) else 0
def idF (i : Nat) : Int := (i : Int)
theorem RepX.snoc {n : Nat} {xs : List Value} (h : RepX n idF xs) (hl : xs.length = n * 5) (a b c d : Option Addr) (p q r s : Nat) : RepX (n + 1) idF (xs ++ [.int .i64 (n : Int), .slice a 0 p, .slice b 0 q, .slice c 0 r, .slice d 0 s]) := by
  intro i hi
  by_cases hin : i = n
  · subst hin
    refine ⟨a, b, c, d, p, q, r, s, ?_, ?_, ?_, ?_, ?_⟩ <;> rw [List.getElem?_append_right (by omega), hl]
    · simp [idF]
    · rw [show i * 5 + 1 - i * 5 = 1 by omega]; rfl
    · rw [show i * 5 + 2 - i * 5 = 2 by omega]; rfl
    · rw [show i * 5 + 3 - i * 5 = 3 by omega]; rfl
    · rw [show i * 5 + 4 - i * 5 = 4 by omega]; rfl
  · obtain ⟨a1, a2, a3, a4, p1, p2, p3, p4, e0, e1, e2, e3, e4⟩ := h i (by omega)
    refine ⟨a1, a2, a3, a4, p1, p2, p3, p4, ?_, ?_, ?_, ?_, ?_⟩ <;> rw [List.getElem?_append_left (by omega)] <;> assumption
theorem PipX.snoc {L : List (Nat × Nat)} {ys : List Value} (h : PipX L.length (pf L) ys) (hl : ys.length = L.length * 6) (x y : Nat) (a b : Option Addr) (p q : Nat) : PipX (L.length + 1) (pf (L ++ [(x, y)])) (ys ++ [.int .i64 (x : Int), .int .i64 (y : Int), .slice a 0 p, .slice b 0 q, .int .i64 0, .int .i64 0]) := by
  intro i hi
  by_cases hin : i = L.length
  · subst hin
    refine ⟨a, b, p, q, ?_, ?_, ?_, ?_, ?_, ?_⟩ <;> rw [List.getElem?_append_right (by omega), hl]
    · simp [pf]
    · rw [show L.length * 6 + 1 - L.length * 6 = 1 by omega]; simp [pf]
    · rw [show L.length * 6 + 2 - L.length * 6 = 2 by omega]; rfl
    · rw [show L.length * 6 + 3 - L.length * 6 = 3 by omega]; rfl
    · rw [show L.length * 6 + 4 - L.length * 6 = 4 by omega]; simp [pf]
    · rw [show L.length * 6 + 5 - L.length * 6 = 5 by omega]; simp [pf]
  · obtain ⟨a1, a2, p1, p2, e0, e1, e2, e3, e4, e5⟩ := h i (by omega)
    have hg : (L ++ [(x, y)]).getD i (0, 0) = L.getD i (0, 0) := by
      simp only [List.getD]; rw [List.getElem?_append_left (by omega)]
    have e : pf (L ++ [(x, y)]) i = pf L i := by funext c; unfold pf; rw [hg]
    rw [e]
    refine ⟨a1, a2, p1, p2, ?_, ?_, ?_, ?_, ?_, ?_⟩ <;> rw [List.getElem?_append_left (by omega)] <;> assumption

structure Bx2 (w : World) (b : Nat) (u v : Value) : Prop where
  c0 : w.cell? ⟨b, 0, none⟩ = some u
  c1 : w.cell? ⟨b, 1, none⟩ = some v
  f0 : w.frozen? ⟨b, 0, none⟩ = false
  f1 : w.frozen? ⟨b, 1, none⟩ = false
  lt : b < w.heap.size
theorem Bx2.gr {w w' : World} {b : Nat} {u v : Value} (h : Bx2 w b u v) {row : Option Nat} (hg : w.grownBy w' row) (hr : row ≠ some b) : Bx2 w' b u v := by
  have e : w'.heap[b]? = w.heap[b]? := hg.block b h.lt (fun e => hr e.symm)
  exact ⟨(World.cell?_of_block e).trans h.c0, (World.cell?_of_block e).trans h.c1, (World.frozen?_of_block e).trans h.f0, (World.frozen?_of_block e).trans h.f1, Nat.lt_of_lt_of_le h.lt hg.size⟩
theorem size_set (w : World) (p : Addr) (x : Value) : (w.setCell p x).heap.size = w.heap.size := by simp [World.setCell]
theorem Bx2.set0 {w : World} {b : Nat} {u v : Value} (h : Bx2 w b u v) (x : Value) : Bx2 (w.setCell ⟨b, 0, none⟩ x) b x v :=
  ⟨World.cell?_setCell_same _ _ _ h.c0, (World.cell?_setCell_other _ _ _ _ (by simp)).trans h.c1, by simp [h.f0], by simp [h.f1], by rw [size_set]; exact h.lt⟩
theorem Bx2.set1 {w : World} {b : Nat} {u v : Value} (h : Bx2 w b u v) (x : Value) : Bx2 (w.setCell ⟨b, 1, none⟩ x) b u x :=
  ⟨(World.cell?_setCell_other _ _ _ _ (by simp)).trans h.c0, World.cell?_setCell_same _ _ _ h.c1, by simp [h.f0], by simp [h.f1], by rw [size_set]; exact h.lt⟩
theorem Bx2.other {w : World} {b : Nat} {u v : Value} (h : Bx2 w b u v) {p : Addr} (hp : p.block ≠ b) (x : Value) : Bx2 (w.setCell p x) b u v := by
  have e := Below.heap_setCell w p x b (fun e => hp e.symm)
  exact ⟨(World.cell?_of_block e).trans h.c0, (World.cell?_of_block e).trans h.c1, (World.frozen?_of_block e).trans h.f0, (World.frozen?_of_block e).trans h.f1, by rw [size_set]; exact h.lt⟩

structure NwS (w wr : World) (b2 b4 a : Nat) (L : List (Nat × Nat)) (rv pv : Value) : Prop where
  bel : Below w.heap.size w wr
  x2 : Bx2 wr b2 (.slice none 0 0) (.slice none 0 0)
  x4 : Bx2 wr b4 rv pv
  rr : ∃ xs, wr.ownsRow w.heap.size 60 5 rv a xs ∧ RepX a idF xs
  pp : ∃ ys, wr.ownsRow w.heap.size 68 6 pv L.length ys ∧ PipX L.length (pf L) ys
  dj : ∀ k, rv.ownBlock = some k → pv.ownBlock ≠ some k
  r2 : rv.ownBlock ≠ some b2
  r4 : rv.ownBlock ≠ some b4
  p2 : pv.ownBlock ≠ some b2
  p4 : pv.ownBlock ≠ some b4
  hb : b2 ≠ b4 ∧ w.heap.size ≤ b2 ∧ w.heap.size ≤ b4
theorem NwS.sz {w wr : World} {b2 b4 a : Nat} {L : List (Nat × Nat)} {rv pv : Value} (h : NwS w wr b2 b4 a L rv pv) : w.heap.size ≤ wr.heap.size := h.bel.size
theorem NwS.below {w wr w1 : World} {b2 b4 a : Nat} {L : List (Nat × Nat)} {rv pv : Value} (h : NwS w wr b2 b4 a L rv pv) (hb : Below wr.heap.size wr w1) : NwS w w1 b2 b4 a L rv pv := by
  have hg : wr.grownBy w1 none := ⟨hb.os, hb.tape, hb.output, hb.size, fun k hk _ => hb.block k hk⟩
  obtain ⟨xs, r1, r2⟩ := h.rr
  obtain ⟨ys, p1, p2⟩ := h.pp
  exact ⟨h.bel.trans (hb.mono h.bel.size), h.x2.gr hg (by simp), h.x4.gr hg (by simp), ⟨xs, r1.kept hg (by cases rv.ownBlock <;> simp), r2⟩, ⟨ys, p1.kept hg (by cases pv.ownBlock <;> simp), p2⟩, h.dj, h.r2, h.r4, h.p2, h.p4, h.hb⟩
theorem NwS.putR {w wr w2 : World} {b2 b4 a : Nat} {L : List (Nat × Nat)} {rv pv v' : Value} (h : NwS w wr b2 b4 a L rv pv) {xs : List Value} (hx : RepX (a + 1) idF xs) (hown : w2.ownsRow w.heap.size 60 5 v' (a + 1) xs) (hg : wr.grownBy w2 rv.ownBlock) (hl : v'.ownBlock = rv.ownBlock ∨ ∃ k, v'.ownBlock = some k ∧ wr.heap.size ≤ k) : NwS w (w2.setCell ⟨b4, 0, none⟩ v') b2 b4 (a + 1) L v' pv := by
  obtain ⟨ys, p1, p2⟩ := h.pp
  have hv : ∀ b, b < wr.heap.size → rv.ownBlock ≠ some b → v'.ownBlock ≠ some b := fun b hb h1 e => by
    rcases hl with q | ⟨k, q, hk⟩
    · exact h1 (q ▸ e)
    · rw [q] at e; injection e with e; omega
  have hpk : pv.ownBlock = none ∨ pv.ownBlock ≠ rv.ownBlock := by
    cases e : pv.ownBlock with
    | none => exact .inl rfl
    | some k => exact .inr (fun e2 => h.dj k e2.symm e)
  refine ⟨(h.bel.grown hg h.bel.size (fun k hk => ?_)).setCell (p := ⟨b4, 0, none⟩) h.hb.2.2 _, (h.x2.gr hg h.r2).other (fun e => h.hb.1 e.symm) _, (h.x4.gr hg h.r4).set0 _, ⟨xs, ownsRow_setCell_other hown (hv b4 h.x4.lt h.r4) _, hx⟩, ⟨ys, ownsRow_setCell_other (p1.kept hg hpk) h.p4 _, p2⟩, fun k hk e => ?_, hv b2 h.x2.lt h.r2, hv b4 h.x4.lt h.r4, h.p2, h.p4, h.hb⟩
  · obtain ⟨zs, r1, _⟩ := h.rr
    exact (r1.lt k hk).1
  · rcases hl with q | ⟨j, q, hj⟩
    · exact h.dj k (q ▸ hk) e
    · rw [q] at hk; injection hk with hk; have := (p1.lt k e).2; omega
theorem NwS.putP {w wr w2 : World} {b2 b4 a : Nat} {L L' : List (Nat × Nat)} {rv pv v' : Value} (h : NwS w wr b2 b4 a L rv pv) {ys : List Value} (hy : PipX L'.length (pf L') ys) (hown : w2.ownsRow w.heap.size 68 6 v' L'.length ys) (hg : wr.grownBy w2 pv.ownBlock) (hl : v'.ownBlock = pv.ownBlock ∨ ∃ k, v'.ownBlock = some k ∧ wr.heap.size ≤ k) : NwS w (w2.setCell ⟨b4, 1, none⟩ v') b2 b4 a L' rv v' := by
  obtain ⟨xs, r1, r2⟩ := h.rr
  have hv : ∀ b, b < wr.heap.size → pv.ownBlock ≠ some b → v'.ownBlock ≠ some b := fun b hb h1 e => by
    rcases hl with q | ⟨k, q, hk⟩
    · exact h1 (q ▸ e)
    · rw [q] at e; injection e with e; omega
  have hrk : rv.ownBlock = none ∨ rv.ownBlock ≠ pv.ownBlock := by
    cases e : rv.ownBlock with
    | none => exact .inl rfl
    | some k => exact .inr (fun e2 => h.dj k e e2.symm)
  refine ⟨(h.bel.grown hg h.bel.size (fun k hk => ?_)).setCell (p := ⟨b4, 1, none⟩) h.hb.2.2 _, (h.x2.gr hg h.p2).other (fun e => h.hb.1 e.symm) _, (h.x4.gr hg h.p4).set1 _, ⟨xs, ownsRow_setCell_other (r1.kept hg hrk) h.r4 _, r2⟩, ⟨ys, ownsRow_setCell_other hown (hv b4 h.x4.lt h.p4) _, hy⟩, fun k hk e => ?_, h.r2, h.r4, hv b2 h.x2.lt h.p2, hv b4 h.x4.lt h.p4, h.hb⟩
  · obtain ⟨zs, p1, _⟩ := h.pp
    exact (p1.lt k hk).1
  · rcases hl with q | ⟨j, q, hj⟩
    · exact h.dj k hk (q ▸ e)
    · rw [q] at e; injection e with e; have := (r1.lt k hk).2; omega
theorem infoR : (Try.prog.info? 60).map (fun i => (i.zero, i.size, i.bytes)) = some (some (.agg #[.int .i64 0, .slice none 0 0, .slice none 0 0, .slice none 0 0, .slice none 0 0]), 5, 104) := by kernel_rfl
theorem infoP : (Try.prog.info? 68).map (fun i => (i.zero, i.size, i.bytes)) = some (some (.agg #[.int .i64 0, .int .i64 0, .slice none 0 0, .slice none 0 0, .int .i64 0, .int .i64 0]), 6, 80) := by kernel_rfl
theorem cell5A (w : World) (a b c d e : Value) (t : TypeId) : ∀ j u, [a, b, c, d, e][j]? = some u → (w.alloc (.cells #[a, b, c, d, e] t)).cell? ((⟨w.heap.size, 0, none⟩ : Addr).add j) = some u := by
  intro j u hj
  match j, hj with
  | 0, hj => simp at hj; subst hj; simp [Addr.add]
  | 1, hj => simp at hj; subst hj; simp [Addr.add]
  | 2, hj => simp at hj; subst hj; simp [Addr.add]
  | 3, hj => simp at hj; subst hj; simp [Addr.add]
  | 4, hj => simp at hj; subst hj; simp [Addr.add]
theorem cell6A (w : World) (a b c d e f : Value) (t : TypeId) : ∀ j u, [a, b, c, d, e, f][j]? = some u → (w.alloc (.cells #[a, b, c, d, e, f] t)).cell? ((⟨w.heap.size, 0, none⟩ : Addr).add j) = some u := by
  intro j u hj
  match j, hj with
  | 0, hj => simp at hj; subst hj; simp [Addr.add]
  | 1, hj => simp at hj; subst hj; simp [Addr.add]
  | 2, hj => simp at hj; subst hj; simp [Addr.add]
  | 3, hj => simp at hj; subst hj; simp [Addr.add]
  | 4, hj => simp at hj; subst hj; simp [Addr.add]
  | 5, hj => simp at hj; subst hj; simp [Addr.add]

def NwA (w w' : World) (n : Nat) (v : Value) : Prop := ∃ rv pv xs ys, v = .agg #[rv, pv] ∧ w'.ownsRow w.heap.size 60 5 rv n xs ∧ RepX n idF xs ∧ w'.ownsRow w.heap.size 68 6 pv (plO n n).length ys ∧ PipX (plO n n).length (pf (plO n n)) ys ∧ (∀ k, rv.ownBlock = some k → pv.ownBlock ≠ some k) ∧ Below w.heap.size w w'
end Go.Proofs.Ytbimcammjohaoae.fnExactNewWorld
