import Derived.Test.YtbimcammjohaoadDoorIter
namespace Go.Proofs.YtbimcammjohaoadDoor
open Go.ChangeShapes Go.WideShapes Go.ChangeAt Go.RowKit Go.Maps Go.Sort
set_option linter.unusedVariables false
set_option linter.unusedSimpArgs false

def repB (L : Int → List (Int × Int)) (r : Int) : List Int := uvF 9 r.toNat ++ grpB (L r)

def putK (L : Int → List (Int × Int)) (ks : List Int) : Nat → List Int
  | 0 => []
  | k + 1 => putK L ks k ++ repB L (ks.getD k 0)
def putB (L : Int → List (Int × Int)) : List Int := uvF 9 (KS L 8).length ++ putK L (KS L 8) (KS L 8).length

theorem putK_len {L : Int → List (Int × Int)} (hL : ∀ r, (L r).length ≤ 1000) (ks : List Int) : ∀ k, (putK L ks k).length ≤ 30000 * k
  | 0 => by simp [putK]
  | k + 1 => by
    have := putK_len hL ks k
    have h1 := (uvF_len 9 (ks.getD k 0).toNat).1
    have h2 := grpB_len (L (ks.getD k 0))
    have h3 := hL (ks.getD k 0)
    simp only [putK, repB, List.length_append]
    omega

theorem GrpAt.gr {w w1 : World} {bm n : Nat} {D : DataW Value} {G : Int → Value} {L : Int → List (Int × Int)} (h : GrpAt w bm n D G L) {row : Option Nat} (hg : w.grownBy w1 row) (hr : some bm ≠ row) (hro : ∀ r g, (G r).ownBlock = some g → some g ≠ row) : GrpAt w1 bm n D G L :=
  ⟨h.own.kept hg hr, h.at', h.has', fun r => (h.rows r).kept hg (by
    cases e : (G r).ownBlock with
    | none => exact .inl rfl
    | some g => exact .inr (hro r g e)), h.apart⟩

theorem row_ints {w : World} {B g m cap : Nat} {zs : List Int} (h : w.ownsRow B 3 1 (.slice (some ⟨g, 0, none⟩) m cap) m (zs.map encZ)) (hl : zs.length = m) : ∀ i, i < m → w.cell? ⟨g, i, none⟩ = some (.int .i64 (zs.getD i 0)) := by
  intro i hi
  rw [h.cellAt i (by omega)]
  simp [List.getD, show i < zs.length by omega]

end Go.Proofs.YtbimcammjohaoadDoor
