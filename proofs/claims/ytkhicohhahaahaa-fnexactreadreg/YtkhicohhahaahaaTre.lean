import Derived.Test.YtkhicohhahaahaaTrd
import Derived.Test.YtkhicohhahaahaaStw
namespace Go.Proofs.Ytkhicohhahaahaa
open Go.ChangeShapes Go.WideShapes Go.ChangeAt Go.RowKit Go.Maps
set_option linter.unusedVariables false
set_option linter.unusedSimpArgs false

noncomputable def Mk (l : List Lf) : Nat → List Ky → Dt → Option ByteArray
  | 0 => fun _ _ => none
  | k + 1 => updM (Mk l k) (wayOf (gL l k).p (kd (gL l k).fl)) ((gL l k).r, (gL l k).q) (gL l k).v
def Way (x : Lf) : List Ky := wayOf x.p (kd x.fl)
theorem Mk_ne {l : List Lf} {p : List Ky} {d : Dt} : ∀ {k : Nat}, Mk l k p d ≠ none ↔ ∃ j, j < k ∧ Way (gL l j) = p ∧ ((gL l j).r, (gL l j).q) = d
  | 0 => ⟨fun h => absurd rfl h, fun ⟨j, hj, _⟩ => by omega⟩
  | k + 1 => by
    have ih := Mk_ne (l := l) (p := p) (d := d) (k := k)
    simp only [Mk]
    by_cases e : p = wayOf (gL l k).p (kd (gL l k).fl)
    · rw [e, updM_same, ← e]
      by_cases e2 : d = ((gL l k).r, (gL l k).q)
      · rw [e2, updF_same]
        exact ⟨fun _ => ⟨k, by omega, e.symm, rfl⟩, fun _ h => by cases h⟩
      · rw [updF_other _ _ e2, ih]
        constructor
        · rintro ⟨j, hj, r⟩; exact ⟨j, by omega, r⟩
        · rintro ⟨j, hj, r1, r2⟩
          by_cases ej : j = k
          · subst ej; exact absurd r2.symm e2
          · exact ⟨j, by omega, r1, r2⟩
    · rw [updM_other _ _ _ e, ih]
      constructor
      · rintro ⟨j, hj, r⟩; exact ⟨j, by omega, r⟩
      · rintro ⟨j, hj, r1, r2⟩
        by_cases ej : j = k
        · subst ej; exact absurd r1.symm e
        · exact ⟨j, by omega, r1, r2⟩

def NkI (l : List Lf) (k : Nat) (N : List Ky → Option (Nat × Nat)) : Prop := ∀ z, (N z).isSome = true ↔ z = [] ∨ ∃ j, j < k ∧ z <+: Way (gL l j)

set_option maxRecDepth 100000 in
set_option maxHeartbeats 1000000 in
theorem openRunsK (a : Option Addr) (c : Nat) (l : List Lf) (x : Option Addr) (n d : Nat) (R F T : Nat → Int) (w : World) (hn : l.length ≤ 1048576) (hp : LBd l) (hi : ∀ i, LfI (gL l i)) (hm : n ≤ 1048576) (h : LSeg w a l) (h' : RSeg w x n R F T) (hok : StOk R F T n l) :
    Calls Try.prog 40 #[.agg #[.slice a l.length c, .slice x n d]] w fun e w' => (∃ bm D G, e = .returned (.tuple #[.map (some bm), .bool true]) ∧ GrpAt w' bm n D G (Lk R F T n) ∧ w.heap.size ≤ bm) ∧ Below w.heap.size w w' := by
  obtain ⟨W, hW⟩ : ∃ W, w.alloc (.cells #[.slice a l.length c, .slice x n d] 38) = W := ⟨_, rfl⟩
  have b0 : Below w.heap.size w W := by rw [← hW]; exact (Below.refl _ _).alloc (Nat.le_refl _) _
  have zW : w.heap.size < W.heap.size := by rw [← hW]; simp
  have k0 : W.cell? ⟨w.heap.size, 0, none⟩ = some (.slice a l.length c) := by rw [← hW]; simp
  have k1 : W.cell? ⟨w.heap.size, 1, none⟩ = some (.slice x n d) := by rw [← hW]; simp
  have HL := hid (h.below b0)
  have HR := hid (h'.below b0)
  have HB0 := hid b0
  clear h h' b0
  have hcx := hok.1
  have hokT := ctxB_iff.1 hcx
  have HO := hid (openC x n d R F T W hm HR.out hcx)
  have HS : Hid (∀ r, Srt (Lk R F T n r)) := hid (fun r => (Lk_srt n hokT.1 r).1)
  have HN : Hid (∀ r, (Lk R F T n r).length ≤ 1000000) := hid (fun r => by have := Lk_len R F T n r; have := hokT.2; omega)
  have HE : Hid (yes (LsOk R F T n l) = true) := hid (yes_t ⟨hok.2.1, hok.2.2.1, hok.2.2.2⟩)
  have HZW := hid zW
  clear hokT hcx hok
  go_enter Try.func40, Try.ntmps40
  go_wp2_with fail
  try rw [hW]
  clear hW
  refine HO.out.mono ?_
  rintro e w1 ⟨bm, D, G, rfl, hgrp, hbm, b1⟩
  have m0 := (b1.cell (p := ⟨w.heap.size, 0, none⟩) HZW.out).trans k0
  have HC := hid (leavesOk a c l bm n D G R F T w1 hn hp hi (HL.out.below b1) hgrp HS.out HN.out)
  have HZ := hid (keepS HB0.out b1)
  have HGR := hid hgrp
  have HBM := hid hbm
  clear b1 HO k0 k1 hgrp hbm zW
  go_wp2_with fail
  refine HC.out.mono ?_
  rintro e w2 ⟨rfl, b2⟩
  have HZ2 := hid (keepS HZ.out b2)
  have HG2 := hid (HGR.out.below b2)
  rw [HE.out]
  clear b2 HC HE
  go_wp2_with fail
  go_ret2
  exact ⟨⟨bm, D, G, rfl, HG2.out, Nat.le_trans (Nat.le_of_lt HZW.out) HBM.out⟩, HZ2.out⟩
end Go.Proofs.Ytkhicohhahaahaa
