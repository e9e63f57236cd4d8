import Derived.Test.YtbimcammjohaoabDoorFd
import Derived.Test.YtbimcammjohaoabDoorSg
import Derived.Deep.AppendLies
import Derived.Deep.QuietTactic
import Derived.BigQuiet
namespace Go.Proofs.YtbimcammjohaoabDoor
open Go.ChangeShapes Go.WideShapes Go.ChangeAt Go.RowKit
set_option linter.unusedVariables false

theorem below_drewX {B : Nat} {a w : World} (h : Below B a w) (n : Nat) : Below B a (w.drewN n) := ⟨h.os, h.tape, h.output, h.size, h.block⟩
set_option linter.unusedSimpArgs false

theorem boxE {w1 : World} {B : Nat} {u0 u1 : Value} (x y : Value) (q0 : w1.cell? ⟨B, 0, none⟩ = some u0) (q1 : w1.cell? ⟨B, 1, none⟩ = some u1) :
    ((w1.setCell ⟨B, 0, none⟩ x).setCell ⟨B, 1, none⟩ y).cell? ⟨B, 0, none⟩ = some x ∧ ((w1.setCell ⟨B, 0, none⟩ x).setCell ⟨B, 1, none⟩ y).cell? ⟨B, 1, none⟩ = some y := by
  have a0 := World.cell?_setCell_same w1 ⟨B, 0, none⟩ x q0
  have a1 : (w1.setCell ⟨B, 0, none⟩ x).cell? ⟨B, 1, none⟩ = some u1 := (World.cell?_setCell_other _ _ _ _ (by simp)).trans q1
  exact ⟨(World.cell?_setCell_other _ _ _ _ (by simp)).trans a0, World.cell?_setCell_same _ _ _ a1⟩

theorem grownSetF (w : World) (p : Addr) (u : Value) : w.grownBy (w.setCell p u) (some p.block) :=
  ⟨rfl, rfl, rfl, by simp [World.setCell], fun k hk hne => Below.heap_setCell _ _ _ _ (fun e => hne (by rw [e]))⟩
theorem undrewG {w w1 : World} {r : Option Nat} (h : w.drew.grownBy w1 r) : w.grownBy w1 r := ⟨h.os, h.tape, h.output, h.size, h.block⟩
theorem own_payl {w : World} {B : Nat} {v : Value} {f : Nat → Int} {l : Nat} (h : Own w B v (payl f l)) (hn : v.ownBlock ≠ none) : ∃ g cap, v = .slice (some ⟨g, 0, none⟩) l cap ∧ B ≤ g ∧ g < w.heap.size := by
  have hlt := World.ownsRow.lt h
  obtain ⟨_, h2⟩ := h
  rcases h2 with ⟨rfl, _⟩ | ⟨g, cap, cur, rfl, hbg, hg, _⟩
  · exact absurd rfl hn
  · rw [payl_len]; exact ⟨g, cap, rfl, hbg, (hlt g rfl).2⟩
theorem payl_seg {w : World} {B g l cp : Nat} {f : Nat → Int} (h : Own w B (.slice (some ⟨g, 0, none⟩) l cp) (payl f l)) : Seg w (some ⟨g, 0, none⟩) l f := by
  obtain ⟨a, cap, e, s⟩ := h.any
  injection e with e1 e2 e3
  rw [payl_len] at s
  subst e1
  rcases s with s | ⟨b, off, e, hb, hc⟩
  · exact .inl s
  · refine .inr ⟨b, off, e, hb, fun i hi => ?_⟩
    rw [hc i hi]; simp [payl, List.getD, hi]
theorem news_at {w : World} {b off n at' l : Nat} {f : Nat → Int} (hc : ∀ i, i < n → w.cell? ⟨b, off + i, none⟩ = some (.int .u8 (f i))) (hl : at' + l ≤ n) :
    ∀ j u, (cells8 (fun i => f (at' + i)) l)[j]? = some u → w.cell? ((⟨b, off + at', none⟩ : Addr).add j) = some u := by
  intro j u hj
  have hj' : j < l := by have := (List.getElem?_eq_some_iff.1 hj).1; simpa [cells8] using this
  rw [cells8_get _ l j hj'] at hj
  have e : (Addr.add ⟨b, off + at', none⟩ j) = ⟨b, off + (at' + j), none⟩ := by
    by_cases h0 : j = 0
    · subst h0; simp [Addr.add]
    · simp [Addr.add, h0, Nat.add_assoc]
  rw [e, hc (at' + j) (by omega), hj]
theorem payl_own {w : World} {B : Nat} {v : Value} {f : Nat → Int} {l : Nat} {t : TypeId} (ht : t = 5) (h : w.ownsRow B t 1 v (0 + l) ([] ++ cells8 f l)) : Own w B v (payl f l) := by
  subst ht
  rw [Nat.zero_add, List.nil_append] at h
  unfold Own
  rw [payl_len]
  have e : (payl f l).map (Value.int .u8) = cells8 f l := by simp [payl, cells8]
  rw [e]; exact h
theorem frB_len {f : Nat → Int} (hf : Byt f) {n at' l : Nat} (h : headF f n = (0, at', l)) (ha : at' ≠ 0) : (frB (f 2) (fun i => f (at' + i)) l).length = at' + l + 4 := by
  rw [frB_read hf h ha]; simp [sum4]
theorem frB_byte {f : Nat → Int} (hf : Byt f) {n at' l : Nat} (h : headF f n = (0, at', l)) (ha : at' ≠ 0) : Byt (gz (frB (f 2) (fun i => f (at' + i)) l)) := by
  rw [frB_read hf h ha]
  refine gz_byte (fun z hz => ?_)
  rcases List.mem_append.1 hz with hz | hz
  · obtain ⟨i, _, rfl⟩ := List.mem_map.1 hz; exact hf i
  · have hV : 0 ≤ sumX f (at' + l) ∧ sumX f (at' + l) < 4294967296 := crc_u32 hf (at' + l)
    simp [sum4] at hz
    omega
theorem some_of {v : Value} {k j : Nat} (h : v.ownBlock = some k ∨ v.ownBlock = some j) : v.ownBlock ≠ none := by
  rcases h with h | h <;> rw [h] <;> simp

end Go.Proofs.YtbimcammjohaoabDoor
