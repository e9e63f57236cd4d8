import Derived.Test.YtbimcammjohaoadDoorSpb
namespace Go.Proofs.YtbimcammjohaoadDoor
open Go.ChangeShapes Go.WideShapes Go.ChangeAt Go.RowKit Go.Maps
set_option linter.unusedVariables false
set_option linter.unusedSimpArgs false

theorem Gr.drew {w w1 : World} {b0 b : Value} (h : Gr w w1 b0 b) : Gr w w1.drew b0 b := h.trans ⟨⟨rfl, rfl, rfl, Nat.le_refl _, fun _ _ _ => rfl⟩, .inl rfl⟩

def SR (w : World) (B : Nat) (v : Value) (l : List (Int × Int)) : Prop := w.ownsRow B 96 2 v l.length (spanCells l)
theorem spanCells_len (l : List (Int × Int)) : (spanCells l).length = l.length * 2 := by
  induction l with
  | nil => rfl
  | cons a l ih => simp [spanCells] at *; omega

theorem cell2 (w : World) (x y : Value) (t : TypeId) : ∀ j u, [x, y][j]? = some u → (w.alloc (.cells #[x, y] t)).cell? ((⟨w.heap.size, 0, none⟩ : Addr).add j) = some u := by
  intro j u hj
  match j, hj with
  | 0, hj => simp at hj; subst hj; simp [Addr.add]
  | 1, hj => simp at hj; subst hj; simp [Addr.add]

theorem grownSet (w : World) (p : Addr) (u : Value) : w.grownBy (w.setCell p u) (some p.block) :=
  ⟨rfl, rfl, rfl, by simp [World.setCell], fun k hk hne => Below.heap_setCell _ _ _ _ (fun e => hne (by rw [e]))⟩

structure GrpR (w : World) (bm n : Nat) (D : DataW Value) (G : Int → Value) (L : Int → List (Int × Int)) : Prop where
  own : w.ownsMap Tryd.prog 3 rawR bm n D
  at' : ∀ r, D.atKey (kI r) (.held (.slice none 0 0)) = .held (G r)
  has' : ∀ r, Maps.has D (kI r) = !(L r).isEmpty
  rows : ∀ r, w.ownsRow 0 96 2 (G r) (L r).length (spanCells (L r))

theorem row_zero {w : World} {B : Nat} {e : TypeId} {s : Nat} {v : Value} {n : Nat} {xs : List Value} (h : w.ownsRow B e s v n xs) : w.ownsRow 0 e s v n xs := by
  obtain ⟨h1, h2⟩ := h
  refine ⟨h1, h2.imp id ?_⟩
  rintro ⟨g, cap, cur, e, _, r⟩
  exact ⟨g, cap, cur, e, Nat.zero_le _, r⟩
theorem row_map {w : World} {B bm n : Nat} {e : TypeId} {s : Nat} {v : Value} {m : Nat} {xs : List Value} {D : DataW Value} (h : w.ownsRow B e s v m xs) (hm : w.ownsMap Tryd.prog 3 rawR bm n D) : v.ownBlock = none ∨ v.ownBlock ≠ some bm := by
  obtain ⟨_, h2⟩ := h
  rcases h2 with ⟨rfl, _⟩ | ⟨g, cap, cur, rfl, _, hg, _⟩
  · exact .inl rfl
  · refine .inr (fun e => ?_)
    obtain ⟨es, clock, hb, _⟩ := hm
    have e : g = bm := by simpa [Value.ownBlock] using e
    rw [e, hb] at hg
    cases hg
theorem row_below {w w1 : World} {B : Nat} {e : TypeId} {s : Nat} {v : Value} {n : Nat} {xs : List Value} (h : w.ownsRow B e s v n xs) (hb : Below w.heap.size w w1) : w1.ownsRow B e s v n xs :=
  owns_below h hb (fun k hk => (h.lt k hk).2)

theorem row_slice {w : World} {B : Nat} {v : Value} {l : List (Int × Int)} (h : w.ownsRow B 96 2 v l.length (spanCells l)) :
    ∃ a c, v = .slice a l.length c ∧ SS w a l.length (sF l) (sT l) ∧ l.length ≤ c ∧ c ≤ 9223372036854775807 := by
  rcases h.2 with ⟨e, e0⟩ | ⟨g, cap, cur, e, hb, _, hnc, hcm, _⟩
  · exact ⟨none, 0, by rw [e, e0], .inl e0, by omega, by omega⟩
  · exact ⟨_, cap, e, by rw [e] at h; exact ss_own h rfl, hnc, by unfold maxLen at hcm; omega⟩

theorem row_form {w : World} {B : Nat} {e : TypeId} {size : Nat} {v : Value} {n : Nat} {xs : List Value} (h : w.ownsRow B e size v n xs) : ∃ y m c, v = .slice y m c := by
  rcases h.2 with ⟨rfl, _⟩ | ⟨g, cap, cur, rfl, _⟩
  · exact ⟨_, _, _, rfl⟩
  · exact ⟨_, _, _, rfl⟩

theorem GrpR.gr {w w1 : World} {bm n : Nat} {D : DataW Value} {G : Int → Value} {L : Int → List (Int × Int)} (h : GrpR w bm n D G L) {row : Option Nat} (hg : w.grownBy w1 row) (hr : some bm ≠ row) (hro : ∀ r g, (G r).ownBlock = some g → some g ≠ row) : GrpR w1 bm n D G L :=
  ⟨h.own.kept hg hr, h.at', h.has', fun r => (h.rows r).kept hg (by
    cases e : (G r).ownBlock with
    | none => exact .inl rfl
    | some g => exact .inr (hro r g e))⟩
theorem GrpR.below {w w1 : World} {bm n : Nat} {D : DataW Value} {G : Int → Value} {L : Int → List (Int × Int)} (h : GrpR w bm n D G L) (hb : Below w.heap.size w w1) : GrpR w1 bm n D G L :=
  h.gr (row := none) ⟨hb.os, hb.tape, hb.output, hb.size, fun k hk _ => hb.block k hk⟩ (by simp) (by simp)
end Go.Proofs.YtbimcammjohaoadDoor
