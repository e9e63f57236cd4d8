import Derived.Test.YtbimcammjohaoabDoorSb
namespace Go.Proofs.YtbimcammjohaoabDoor
open Go.ChangeShapes Go.WideShapes Go.ChangeAt Go.RowKit
set_option linter.unusedVariables false
set_option linter.unusedSimpArgs false

structure ChR (w : World) (B : Nat) (v : Value) (l : List (Value × List Int)) : Prop where
  row : w.ownsRow B 22 1 v l.length (l.map (fun x => x.1))
  pay : ∀ x ∈ l, Own w B x.1 x.2
  far : ∀ x ∈ l, ∀ b, x.1.ownBlock = some b → v.ownBlock ≠ some b
theorem chr_lit (w : World) (B : Nat) (hB : B ≤ w.heap.size) : ChR (w.alloc (.cells #[] 22)) B (.slice (some ⟨w.heap.size, 0, none⟩) 0 0) [] := by
  have := World.ownsRow_lit (base := B) (e := 22) (size := 1) w #[] 0 hB (by unfold maxLen; omega) rfl
  exact ⟨by simpa using this, fun x hx => by simp at hx, fun x hx => by simp at hx⟩
theorem ChR.kept {w w' : World} {B : Nat} {v : Value} {l : List (Value × List Int)} (h : ChR w B v l) {row : Option Nat} (hg : w.grownBy w' row) (hr : ∀ k, row = some k → k < B) : ChR w' B v l := by
  refine ⟨World.ownsRow.kept h.row hg ?_, fun x hx => (h.pay x hx).gr hg (fun g e1 e2 => by have := (World.ownsRow.lt (h.pay x hx) g e1).1; have := hr g e2.symm; omega), h.far⟩
  cases e : v.ownBlock with
  | none => exact .inl rfl
  | some g => exact .inr (fun e2 => by have := (World.ownsRow.lt h.row g e).1; have := hr g e2.symm; omega)
theorem ChR.below {w w' : World} {B : Nat} {v : Value} {l : List (Value × List Int)} (h : ChR w B v l) (hb : Below w.heap.size w w') : ChR w' B v l :=
  h.kept (row := none) ⟨hb.os, hb.tape, hb.output, hb.size, fun k hk _ => hb.block k hk⟩ (by simp)
theorem ChR.step {wr w0 w9 : World} {B : Nat} {fv v9 pv : Value} {l : List (Value × List Int)} {pl : List Int} (h : ChR wr B fv l) (hB : B ≤ wr.heap.size) (b0 : Below wr.heap.size wr w0) (ov : Own w0 wr.heap.size pv pl) (gg : w0.grownBy w9 fv.ownBlock)
    (hown : w9.ownsRow B 22 1 v9 (l.length + 1) (l.map (fun x => x.1) ++ [pv])) (hloc : v9.ownBlock = fv.ownBlock ∨ ∃ k, v9.ownBlock = some k ∧ w0.heap.size ≤ k) : ChR w9 B v9 (l ++ [(pv, pl)]) := by
  have h0 := h.below b0
  have z0 := b0.size
  have hold : ∀ x ∈ l, ∀ k, x.1.ownBlock = some k → k < wr.heap.size := fun x hx k hk => (World.ownsRow.lt (h.pay x hx) k hk).2
  have hnew : ∀ k, pv.ownBlock = some k → wr.heap.size ≤ k ∧ k < w0.heap.size := fun k hk => World.ownsRow.lt ov k hk
  have hfv : ∀ k, fv.ownBlock = some k → k < wr.heap.size := fun k hk => (World.ownsRow.lt h.row k hk).2
  refine ⟨by rw [List.length_append, List.map_append]; exact hown, fun x hx => ?_, fun x hx k hk e => ?_⟩
  · rcases List.mem_append.1 hx with hx | hx
    · exact (h0.pay x hx).gr gg (fun g e1 e2 => h.far x hx g e1 e2.symm)
    · simp at hx; subst hx
      exact (own_weak ov hB).gr gg (fun g e1 e2 => by have := hnew g e1; have := hfv g e2.symm; omega)
  · rcases List.mem_append.1 hx with hx | hx
    · rcases hloc with q | ⟨j, q, hj⟩
      · exact h.far x hx k hk (q ▸ e)
      · rw [q] at e; injection e with e; have := hold x hx k hk; omega
    · simp at hx; subst hx
      have := hnew k hk
      rcases hloc with q | ⟨j, q, hj⟩
      · have := hfv k (q ▸ e); omega
      · rw [q] at e; injection e with e; omega
theorem Tryd.infoBytes : (Tryd.prog.info? 22).map (fun i => (i.zero, i.size, i.bytes)) = some (some (.slice none 0 0), 1, 24) := by kernel_rfl
def posR (w : World) (rb : Nat) : Nat := match w.cell? ⟨rb, 1, none⟩ with
  | some (.int _ n) => n.toNat
  | _ => 0
theorem RdX.pos {w : World} {B rb n x : Nat} (h : RdX w B rb n x) : posR w rb = x := by
  obtain ⟨_, _, _, hc, _⟩ := h
  simp [posR, hc.2.1]
theorem RdX.lt {w : World} {B rb n x : Nat} (h : RdX w B rb n x) : rb < w.heap.size ∧ rb < B := h.rd.lt
theorem seg_pre {w : World} {a : Option Addr} {M n : Nat} {f : Nat → Int} (h : Seg w a M f) (hn : n ≤ M) : Seg w a n f := by
  rcases h with h | ⟨b, off, e, hb, hc⟩
  · exact .inl (by omega)
  · exact .inr ⟨b, off, e, hb, fun i hi => hc i (by omega)⟩
theorem gz_take (zs : List Int) (q n : Nat) (h : q + n ≤ zs.length) : zs.take (q + n) = zs.take q ++ payl (shF (gz zs) q) n := by
  rw [List.take_add]
  congr 1
  refine List.ext_getElem? (fun i => ?_)
  by_cases hi : i < n
  · rw [List.getElem?_take_of_lt hi, List.getElem?_drop]
    simp [payl, shF, gz, List.getD, hi, show q + i < zs.length by omega]
  · rw [List.getElem?_eq_none (by simp; omega), List.getElem?_eq_none (by simp [payl]; omega)]

structure CkI (w wr : World) (zs : List Int) (rb nR q x : Nat) (bv ov : Value) (l : List (Value × List Int)) : Prop where
  bel : Below w.heap.size w wr
  le : q ≤ zs.length
  buf : ∃ a c, bv = .slice a (zs.length - q) c ∧ Seg wr a (zs.length - q) (shF (gz zs) q) ∧ zs.length - q ≤ c ∧ c ≤ 9223372036854775807 ∧ (∀ b, bv.ownBlock = some b → b < w.heap.size)
  ch : ChR wr (w.heap.size + 1) ov l
  rd : RdX wr (w.heap.size + 1) rb nR x
  cat : (l.map (fun y => y.2)).flatten = zs.take q
  ll : l.length ≤ q + x

end Go.Proofs.YtbimcammjohaoabDoor
