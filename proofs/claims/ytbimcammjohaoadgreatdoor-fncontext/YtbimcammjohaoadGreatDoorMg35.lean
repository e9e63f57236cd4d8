import Derived.Test.YtbimcammjohaoadGreatDoorMg34
import Derived.Test.YtbimcammjohaoadGreatDoorMg22
namespace Go.Proofs.YtbimcammjohaoadGreatDoor
open Go.ChangeShapes Go.WideShapes Go.ChangeAt Go.RowKit Go.Maps Go.Sort
set_option linter.unusedVariables false
set_option linter.unusedSimpArgs false

theorem insL_len (l : List Rn) (q : Rn) : 1 ≤ (ins l q).length ∧ (ins l q).length ≤ l.length + 1 := by
  have h := stK_len l q l.length (Nat.le_refl _)
  rw [stK_all] at h
  have e : ins l q = (insSt l q).1 ++ [(insSt l q).2.1] ++ (insSt l q).2.2 := by first | rfl | simp [ins]
  rw [e]
  simp only [List.length_append, List.length_cons, List.length_nil]
  omega

def OffR (w : World) (B : Nat) (v : Value) (l : List Rn) : Prop := OffV w B 3 v l.length (fCells l)
theorem fr_key : ∀ (l : List Rn) (i : Nat), i < l.length → (fCells l)[i * 3]? = some (.int .i64 (gR l i).1) ∧ (fCells l)[i * 3 + 1]? = some (.int .i64 (gR l i).2.1) ∧ (fCells l)[i * 3 + 2]? = some (.int .i64 (gR l i).2.2)
  | [], i, hi => by simp at hi
  | a :: l, 0, hi => by simp [fCells, gR]
  | a :: l, i + 1, hi => by
    have := fr_key l i (by simpa using hi)
    have e : fCells (a :: l) = .int .i64 a.1 :: .int .i64 a.2.1 :: .int .i64 a.2.2 :: fCells l := by simp [fCells]
    rw [e, show (i + 1) * 3 = i * 3 + 1 + 1 + 1 from by omega]
    simpa [gR] using this
theorem OffR.fs {w : World} {B : Nat} {v : Value} {l : List Rn} (h : OffR w B v l) : ∃ g off c, v = .slice (some ⟨g, off, none⟩) l.length c ∧ FS w (some ⟨g, off, none⟩) l ∧ l.length ≤ c ∧ c ≤ 9223372036854775807 ∧ B ≤ g ∧ g < w.heap.size := by
  obtain ⟨g, off, c, e, hB, hg, hn, hc, hl, h1, h2, h3⟩ := h
  refine ⟨g, off, c, e, .inr ⟨g, off, rfl, hg, fun i hi => ?_⟩, hn, by unfold maxLen at hc; omega, hB, hg⟩
  obtain ⟨k0, k1, k2⟩ := fr_key l i hi
  rw [h1 _ (by omega), Nat.add_assoc, h1 _ (by omega), Nat.add_assoc, h1 _ (by omega)]
  exact ⟨k0, k1, k2⟩
theorem FR.off {w : World} {B : Nat} {v : Value} {l : List Rn} (h : FR w B v l) (hl : 1 ≤ l.length) : OffR w B v l := off_of_row h (fun e => by
  rcases h.2 with ⟨_, e0⟩ | ⟨g, cap, cur, e2, _⟩
  · omega
  · rw [e2] at e; cases e)
theorem OffR.lit (w : World) (B : Nat) (hB : B ≤ w.heap.size) : OffR (w.alloc (.cells #[] 41)) B (.slice (some ⟨w.heap.size, 0, none⟩) 0 0) [] := by
  refine ⟨w.heap.size, 0, 0, rfl, hB, by simp, Nat.le_refl _, by unfold maxLen; omega, rfl, fun j hj => by simp at hj, fun j hj => by simp at hj, fun j hj => by simp at hj⟩

def BR (l : List Rn) : Prop := ∀ p ∈ l, 0 ≤ p.1 ∧ p.1 ≤ 7 ∧ 0 ≤ p.2.1 ∧ p.2.1 ≤ 1000000000 ∧ 0 ≤ p.2.2 ∧ p.2.2 ≤ 1000000000
theorem FSrt.br {l : List Rn} (h : FSrt l) : BR l := fun p hp => by
  have := h.2 p hp; unfold Rok at this; omega

structure DcS (w wr : World) (B rb : Nat) (v : Value) (l : List Rn) : Prop where
  off : OffR wr (w.heap.size + 1) v l
  rd : Rd wr B rb
  gr : w.grownBy wr (some rb)
  c2 : wr.cell? ⟨w.heap.size, 0, none⟩ = some (.slice none 0 0)
  z2 : wr.frozen? ⟨w.heap.size, 0, none⟩ = false
  sz : w.heap.size + 1 ≤ wr.heap.size
  hB : B ≤ w.heap.size
  hr : rb < B
theorem DcS.to {w wr w1 : World} {B rb : Nat} {v v1 : Value} {l l1 : List Rn} (h : DcS w wr B rb v l) (ho : OffR w1 (w.heap.size + 1) v1 l1) (hr : Rd w1 B rb) {row : Option Nat} (hg : wr.grownBy w1 row) (hrow : ∀ k, row = some k → k = rb ∨ w.heap.size + 1 ≤ k) : DcS w w1 B rb v1 l1 := by
  have hne : some w.heap.size ≠ row := fun e => by
    rcases hrow _ e.symm with h1 | h1
    · have := h.hr; have := h.hB; omega
    · omega
  have e := hg.block w.heap.size (by have := h.sz; omega) hne
  refine ⟨ho, hr, ?_, (World.cell?_of_block e).trans h.c2, (World.frozen?_of_block e).trans h.z2, Nat.le_trans h.sz hg.size, h.hB, h.hr⟩
  have h0 := h.gr
  refine ⟨hg.os.trans h0.os, hg.tape.trans h0.tape, hg.output.trans h0.output, Nat.le_trans h0.size hg.size, fun k hk hk2 => ?_⟩
  rw [hg.block k (Nat.lt_of_lt_of_le hk h0.size) (fun e2 => by
    rcases hrow k e2.symm with h1 | h1
    · exact hk2 (by rw [h1])
    · omega), h0.block k hk hk2]
theorem DcS.below {w wr w1 : World} {B rb : Nat} {v : Value} {l : List Rn} (h : DcS w wr B rb v l) (hb : Below wr.heap.size wr w1) : DcS w w1 B rb v l :=
  h.to (OffV.below h.off hb (Nat.le_refl _)) (h.rd.below (hb.mono (by have := h.hB; have := h.sz; omega))) (row := none) ⟨hb.os, hb.tape, hb.output, hb.size, fun k hk _ => hb.block k hk⟩ (fun k e => by cases e)
theorem DcS.rdd {w wr w1 : World} {B rb : Nat} {v : Value} {l : List Rn} (h : DcS w wr B rb v l) (hr : Rd w1 B rb) (hg : wr.grownBy w1 (some rb)) : DcS w w1 B rb v l :=
  h.to (OffV.gr h.off hg (fun e => by
    obtain ⟨g, e1, h1, _⟩ := OffV.lt h.off
    rw [e1] at e; injection e with e
    have := h.hr; have := h.hB; omega)) hr hg (fun k e => by injection e with e; exact .inl e.symm)
end Go.Proofs.YtbimcammjohaoadGreatDoor

namespace Go.Proofs.YtbimcammjohaoadGreatDoor
open Go.ChangeShapes Go.WideShapes Go.ChangeAt Go.RowKit Go.Maps Go.Sort
set_option linter.unusedVariables false
set_option linter.unusedSimpArgs false

def slLen : Value → Nat
  | .slice _ n _ => n
  | _ => 0
def msr (v i : Value) : Nat := (if intOf i = 0 then 5000 else 1000) - slLen v
theorem msr_a {a a' : Option Addr} {n n' c c' : Nat} {i i' : Int} (hi : i ≠ 0) (h0 : i' = 0) (hn : n' ≤ 1000) : msr (.slice a n c) (.int .i64 i) < msr (.slice a' n' c') (.int .i64 i') := by
  show (if i = 0 then 5000 else 1000) - n < (if i' = 0 then 5000 else 1000) - n'
  rw [if_neg hi, if_pos h0]; omega
theorem msr_b {a a' : Option Addr} {n n' c c' : Nat} {i i' : Int} (hi : i ≠ 0) (h0 : i' ≠ 0) (hn : n' < 1000) (h : n = n' + 1) : msr (.slice a n c) (.int .i64 i) < msr (.slice a' n' c') (.int .i64 i') := by
  show (if i = 0 then 5000 else 1000) - n < (if i' = 0 then 5000 else 1000) - n'
  rw [if_neg hi, if_neg h0]; omega
theorem DcS.fin {w wr : World} {B rb : Nat} {v : Value} {l : List Rn} (h : DcS w wr B rb v l) : OffR (wr.setCell ⟨w.heap.size, 0, none⟩ v) (w.heap.size + 1) v l ∧ Rd (wr.setCell ⟨w.heap.size, 0, none⟩ v) B rb ∧ w.grownBy (wr.setCell ⟨w.heap.size, 0, none⟩ v) (some rb) ∧ (wr.setCell ⟨w.heap.size, 0, none⟩ v).cell? ⟨w.heap.size, 0, none⟩ = some v := by
  have hs : wr.grownBy (wr.setCell ⟨w.heap.size, 0, none⟩ v) (some w.heap.size) := ⟨rfl, rfl, rfl, by simp [World.setCell], fun k hk hne => Below.heap_setCell _ _ _ _ (fun e => hne (by rw [e]))⟩
  have hb : Below w.heap.size wr (wr.setCell ⟨w.heap.size, 0, none⟩ v) := (Below.refl _ _).setCell (p := ⟨w.heap.size, 0, none⟩) (Nat.le_refl _) _
  have h0 := h.gr
  refine ⟨OffV.gr h.off hs (fun e => ?_), h.rd.below (hb.mono h.hB), ⟨hb.os.trans h0.os, hb.tape.trans h0.tape, hb.output.trans h0.output, Nat.le_trans h0.size hb.size, fun k hk hk2 => (hb.block k hk).trans (h0.block k hk hk2)⟩, World.cell?_setCell_same _ _ _ h.c2⟩
  obtain ⟨g, e1, h1, _⟩ := OffV.lt h.off
  rw [e1] at e; injection e with e; omega
theorem DcS.form {w wr : World} {B rb : Nat} {v : Value} {l : List Rn} (h : DcS w wr B rb v l) : ∃ g off c, v = .slice (some ⟨g, off, none⟩) l.length c ∧ FS wr (some ⟨g, off, none⟩) l ∧ l.length ≤ c ∧ c ≤ 9223372036854775807 := by
  obtain ⟨g, off, c, e, fs, h1, h2, _⟩ := h.off.fs
  exact ⟨g, off, c, e, fs, h1, h2⟩
theorem DcS.fs2 {w wr : World} {B rb g off n c : Nat} {l : List Rn} (h : DcS w wr B rb (.slice (some ⟨g, off, none⟩) n c) l) : FS wr (some ⟨g, off, none⟩) l := by
  obtain ⟨g', off', c', e, fs, _⟩ := h.form
  injection e with e1 e2 e3
  rw [e1]; exact fs
theorem cell3A (w : World) (a b c : Value) (t : TypeId) : ∀ j u, [a, b, c][j]? = some u → (w.alloc (.cells #[a, b, c] t)).cell? ((⟨w.heap.size, 0, none⟩ : Addr).add j) = some u := by
  intro j u hj
  match j, hj with
  | 0, hj => simp at hj; subst hj; simp [Addr.add]
  | 1, hj => simp at hj; subst hj; simp [Addr.add]
  | 2, hj => simp at hj; subst hj; simp [Addr.add]
theorem grown_b {w w1 : World} (hb : Below w.heap.size w w1) (row : Option Nat) : w.grownBy w1 row := ⟨hb.os, hb.tape, hb.output, hb.size, fun k hk _ => hb.block k hk⟩

set_option maxRecDepth 100000 in
set_option maxHeartbeats 2000000 in
theorem drawCtx (B rb : Nat) (w : World) (h : Rd w B rb) (hB : B ≤ w.heap.size) :
    Calls Tryz.prog 29 #[.pointer (some ⟨rb, 0, none⟩)] w fun e w' => ∃ v l, e = .returned (.agg #[v]) ∧ OffR w' (w.heap.size + 1) v l ∧ l.length ≤ 1000 ∧ BR l ∧ Rd w' B rb ∧ w.grownBy w' (some rb) := by
  obtain ⟨i0, hi0, iz0, iz1, iz2⟩ := info_parts Tryz.infoRun
  obtain ⟨W, hW⟩ : ∃ W, w.alloc (.cells #[.slice none 0 0] 25) = W := ⟨_, rfl⟩
  have bW : Below w.heap.size w W := by rw [← hW]; exact (Below.refl _ _).alloc (Nat.le_refl _) _
  have k0 : W.cell? ⟨w.heap.size, 0, none⟩ = some (.slice none 0 0) := by rw [← hW]; simp
  have f0 : W.frozen? ⟨w.heap.size, 0, none⟩ = false := by rw [← hW]; simp
  have zW : Hid (W.heap.size = w.heap.size + 1) := by rw [← hW]; exact hid (by simp)
  have HR := hid (h.below (bW.mono hB))
  have hrb := h.lt
  have HBW := hid bW
  clear h bW
  go_enter Tryz.func29, Tryz.ntmps29
  go_wp2_with fail
  try rw [hW]
  clear hW
  refine (rdNext B rb W HR.out).mono ?_
  rintro e w1 ⟨k, hk, rfl, r1, g1⟩
  have z1 := g1.size
  obtain ⟨W2, hW2⟩ : ∃ W2, w1.alloc (.cells #[] 41) = W2 := ⟨_, rfl⟩
  have HI0 : Hid (DcS w W2 B rb (.slice (some ⟨w1.heap.size, 0, none⟩) 0 0) []) := hid (by
    have e1 := zW.out
    have nb : some w.heap.size ≠ some rb := fun e => by injection e with e; omega
    have eb := g1.block w.heap.size (by omega) nb
    have b2 : Below w1.heap.size w1 W2 := by rw [← hW2]; exact (Below.refl _ _).alloc (Nat.le_refl _) _
    have hg := grown_trans (grown_b HBW.out (some rb)) g1
    refine ⟨by rw [← hW2]; exact OffR.lit w1 _ (by omega), r1.below (b2.mono (by omega)), grown_below hg b2, ?_, ?_, by have := b2.size; omega, hB, hrb.2⟩
    · exact (b2.cell (p := ⟨w.heap.size, 0, none⟩) (show w.heap.size < w1.heap.size by omega)).trans ((World.cell?_of_block eb).trans k0)
    · exact (b2.frozen (p := ⟨w.heap.size, 0, none⟩) (show w.heap.size < w1.heap.size by omega)).trans ((World.frozen?_of_block eb).trans f0))
  obtain ⟨n, hn⟩ : ∃ n : Nat, (k : Int) % 8 = (n : Int) := ⟨k % 8, by omega⟩
  have hn7 : n ≤ 7 := by omega
  clear r1 g1 k0 f0 HR HBW zW
  have HW2 := hid hW2
  clear hW2
  go_wp2_with fail
  rw [HW2.out]
  have HN8 := hid hn
  clear HW2 hn
  go_loopw [5, 6] (fun v iv wr => ∃ (j : Nat) (l : List Rn), j ≤ n ∧ iv = .int .i64 (j : Int) ∧ l.length ≤ j ∧ Hid (FSrt l) ∧ Hid (DcS w wr B rb v l)) (fun _ iv _ => n - (intOf iv).toNat)
  case atStart => exact ⟨0, [], Nat.zero_le _, rfl, Nat.le_refl _, hid ⟨List.Pairwise.nil, fun p hp => by cases hp⟩, HI0⟩
  case round =>
    clear HI0
    obtain ⟨j, l, hj, rfl, hlj, hsrt, hI⟩ := hrel
    obtain ⟨g, off, c, rfl, fs0, hc1, hc2⟩ := hI.out.form
    clear fs0
    by_cases hlt : j < n
    · have dlt : decide ((j : Int) < (k : Int) % 8) = true := by have := HN8.out; simp; omega
      have HI := hid hI.out
      have HD := hid (rdDot B rb wr hI.out.rd (by have := hI.out.sz; omega))
      clear hI
      go_wp2_with fail
      refine HD.out.mono ?_
      rintro e w3 ⟨r, s, rfl, hr8, hs1, hs2, r3, g3⟩
      obtain ⟨W3, hW3⟩ : ∃ W3, w3.alloc (.cells #[.int .i64 (r : Int), .int .i64 (s : Int)] 34) = W3 := ⟨_, rfl⟩
      have b3 : Below w3.heap.size w3 W3 := by rw [← hW3]; exact (Below.refl _ _).alloc (Nat.le_refl _) _
      have hI3 := (HI.out.rdd r3 g3).below b3
      have y0 : W3.cell? ⟨w3.heap.size, 0, none⟩ = some (.int .i64 (r : Int)) := by rw [← hW3]; simp
      have y1 : W3.cell? ⟨w3.heap.size, 1, none⟩ = some (.int .i64 (s : Int)) := by rw [← hW3]; simp
      have z3 : w3.heap.size < W3.heap.size := by rw [← hW3]; simp
      have zz3 : Hid (w.heap.size + 1 ≤ w3.heap.size) := hid (by have := HI.out.sz; have := g3.size; omega)
      have HW3 := hid hW3
      clear hW3 r3 g3 b3 HD
      go_wp2_with fail
      rw [HW3.out]
      clear HW3
      refine wp_region_held_drew (S := fun w' => DcS w w' B rb (.slice (some ⟨g, off, none⟩) l.length c) l ∧ w'.cell? ⟨w3.heap.size, 0, none⟩ = some (.int .i64 (r : Int)) ∧ w'.cell? ⟨w3.heap.size, 1, none⟩ = some (.int .i64 (s : Int)) ∧ w3.heap.size < w'.heap.size) (by kernel_rfl) ⟨hI3.below (Below.refl _ _).drew, y0, y1, z3⟩ (fun hHeld => ?_)
      refine take1 (i := 0) (d := some 22) (v := ?_) (by kernel_rfl) (by kernel_rfl) (by kernel_rfl) (by kernel_rfl) (fun _ _ _ h => h) ?_ hHeld ?_
      rotate_left
      · (intro o ho; simp only [List.getElem?_toArray, List.getElem?_cons_succ, List.getElem?_cons_zero, Option.some.injEq] at ho; subst ho; refine Or.inl ⟨by rfl, ?_⟩; intro w hSw; (try dsimp only at hSw); go_simp; try with_reducible rfl)
      try simp only [Act.put, List.setIfInBounds_toArray, List.set_cons_zero, List.set_cons_succ]
      refine take1 (i := 1) (d := some 23) (v := ?_) (by kernel_rfl) (by kernel_rfl) (by kernel_rfl) (by kernel_rfl) (fun _ _ _ h => h) ?_ hHeld ?_
      rotate_left
      · (intro o ho; simp only [List.getElem?_toArray, List.getElem?_cons_succ, List.getElem?_cons_zero, Option.some.injEq] at ho; subst ho; refine Or.inl ⟨by rfl, ?_⟩; intro w hSw; (try dsimp only at hSw); go_simp; try with_reducible rfl)
      try simp only [Act.put, List.setIfInBounds_toArray, List.set_cons_zero, List.set_cons_succ]
      refine take1 (i := 2) (d := some 24) (v := ?_) (by kernel_rfl) (by kernel_rfl) (by kernel_rfl) (by kernel_rfl) (fun _ _ _ h => h) ?_ hHeld ?_
      rotate_left
      · (intro o ho; simp only [List.getElem?_toArray, List.getElem?_cons_succ, List.getElem?_cons_zero, Option.some.injEq] at ho; subst ho; refine Or.inl ⟨by rfl, ?_⟩; intro w hSw; (try dsimp only at hSw); go_simp; try with_reducible rfl)
      try simp only [Act.put, List.setIfInBounds_toArray, List.set_cons_zero, List.set_cons_succ]
      refine call1 (i := 3) (d := some 25) (by kernel_rfl) (by kernel_rfl) ?_
      intro o ho hod K hK; simp only [List.getElem?_toArray, List.getElem?_cons_succ, List.getElem?_cons_zero, Option.some.injEq] at ho; subst ho
      go_simp
      refine (rdNext B rb _ hHeld.1.rd).mono ?_
      rintro e w5 ⟨k2, hk2, rfl, r5, g5⟩
      have hI5 := hHeld.1.rdd r5 g5
      have e5 := g5.block w3.heap.size hHeld.2.2.2 (fun e => by injection e with e; have := zz3.out; omega)
      have q0 := (World.cell?_of_block (a := ⟨w3.heap.size, 0, none⟩) e5).trans hHeld.2.1
      have q1 := (World.cell?_of_block (a := ⟨w3.heap.size, 1, none⟩) e5).trans hHeld.2.2.1
      have z5 := Nat.lt_of_lt_of_le hHeld.2.2.2 g5.size
      obtain ⟨t, ht⟩ : ∃ t : Nat, (s : Int) + (k2 : Int) % 3 = (t : Int) := ⟨s + k2 % 3, by omega⟩
      have wt : IntKind.i64.wrap ((s : Int) + (k2 : Int) % 3) = (t : Int) := by rw [IntKind.wrap_i64]; omega
      refine hK.out _ _ ⟨hI5, q0, q1, z5⟩ (fun hHeld => ?_)
      clear hK K
      try simp only [Act.put, List.setIfInBounds_toArray, List.set_cons_zero, List.set_cons_succ]
      refine take1 (i := 4) (d := some 26) (v := ?_) (by kernel_rfl) (by kernel_rfl) (by kernel_rfl) (by kernel_rfl) (fun _ _ _ h => h) ?_ hHeld ?_
      rotate_left
      · (intro o ho; simp only [List.getElem?_toArray, List.getElem?_cons_succ, List.getElem?_cons_zero, Option.some.injEq] at ho; subst ho; refine Or.inl ⟨by rfl, ?_⟩; intro w hSw; (try dsimp only at hSw); go_simp; try with_reducible rfl)
      try simp only [Act.put, List.setIfInBounds_toArray, List.set_cons_zero, List.set_cons_succ]
      refine take1 (i := 5) (d := some 27) (v := ?_) (by kernel_rfl) (by kernel_rfl) (by kernel_rfl) (by kernel_rfl) (fun _ _ _ h => h) ?_ hHeld ?_
      rotate_left
      · (intro o ho; simp only [List.getElem?_toArray, List.getElem?_cons_succ, List.getElem?_cons_zero, Option.some.injEq] at ho; subst ho; refine Or.inl ⟨by rfl, ?_⟩; intro w hSw; (try dsimp only at hSw); go_simp; try with_reducible rfl)
      try simp only [Act.put, List.setIfInBounds_toArray, List.set_cons_zero, List.set_cons_succ]
      refine take1 (i := 6) (d := some 8) (v := ?_) (by kernel_rfl) (by kernel_rfl) (by kernel_rfl) (by kernel_rfl) (fun _ _ _ h => h) ?_ hHeld ?_
      rotate_left
      · (intro o ho; simp only [List.getElem?_toArray, List.getElem?_cons_succ, List.getElem?_cons_zero, Option.some.injEq] at ho; subst ho; refine Or.inl ⟨by rfl, ?_⟩; intro w hSw; (try dsimp only at hSw); go_simp; try with_reducible rfl)
      try simp only [Act.put, List.setIfInBounds_toArray, List.set_cons_zero, List.set_cons_succ]
      refine wpAnyH_done (by kernel_rfl) ?_ _
      have HS5 := hid hHeld
      have q0 := hHeld.2.1
      have q1 := hHeld.2.2.1
      have hst : s ≤ t := by omega
      clear hHeld hI5 hI3 e5 r5 g5 y0 y1 wt
      by_cases htm : 1000000000 < t
      · have d9 : decide ((1000000000 : Int) < (t : Int)) = true := by simp; omega
        have hrok : Rok ((r : Int), (s : Int), (1000000000 : Int)) := by unfold Rok; simp only; omega
        have HIN := hid (specIns (some ⟨g, off, none⟩) c l (r : Int) (s : Int) 1000000000 w5 (by omega) HS5.out.1.fs2 hsrt.out hrok)
        have HOK := hid (ins_ok hsrt.out hrok).1
        have HLN := hid (insL_len l ((r : Int), (s : Int), (1000000000 : Int)))
        clear hrok
        go_wp2_with fail
        refine HIN.out.mono ?_
        rintro e w6 ⟨v6, rfl, fr6, b6⟩
        have hN := HS5.out.1.to (OffV.weak (fr6.off HLN.out.1) (by have := HS5.out.2.2.2; have := zz3.out; omega)) (HS5.out.1.rd.below (b6.mono (by have := HS5.out.2.2.2; have := zz3.out; omega))) (grown_b b6 none) (fun k e => by cases e)
        obtain ⟨g6, o6, c6, rfl, _⟩ := hN.form
        have HN := hid hN
        clear hN fr6 b6 HIN HS5 q0 q1
        go_wp2_with fail
        go_roundw
        case rel => exact ⟨j + 1, _, hlt, by go_num, by have := HLN.out.2; omega, HOK, HN⟩
        case measure => simp [intOf]; omega
      · have d9 : decide ((1000000000 : Int) < (t : Int)) = false := by simp; omega
        have hrok : Rok ((r : Int), (s : Int), (t : Int)) := by unfold Rok; simp only; omega
        have HIN := hid (specIns (some ⟨g, off, none⟩) c l (r : Int) (s : Int) (t : Int) w5 (by omega) HS5.out.1.fs2 hsrt.out hrok)
        have HOK := hid (ins_ok hsrt.out hrok).1
        have HLN := hid (insL_len l ((r : Int), (s : Int), (t : Int)))
        clear hrok
        go_wp2_with fail
        refine HIN.out.mono ?_
        rintro e w6 ⟨v6, rfl, fr6, b6⟩
        have hN := HS5.out.1.to (OffV.weak (fr6.off HLN.out.1) (by have := HS5.out.2.2.2; have := zz3.out; omega)) (HS5.out.1.rd.below (b6.mono (by have := HS5.out.2.2.2; have := zz3.out; omega))) (grown_b b6 none) (fun k e => by cases e)
        obtain ⟨g6, o6, c6, rfl, _⟩ := hN.form
        have HN := hid hN
        clear hN fr6 b6 HIN HS5 q0 q1
        go_wp2_with fail
        go_roundw
        case rel => exact ⟨j + 1, _, hlt, by go_num, by have := HLN.out.2; omega, HOK, HN⟩
        case measure => simp [intOf]; omega
    · obtain rfl : j = n := by omega
      have dlt : decide ((j : Int) < (k : Int) % 8) = false := by have := HN8.out; simp; omega
      have HI := hid hI.out
      have HBR := hid hsrt.out.br
      clear hI hsrt
      by_cases h31 : k % 32 = 31
      · have d31 : ((k : Int) % 32 == 31) = true := by simp; omega
        obtain ⟨lim, hlim⟩ : ∃ lim : Nat, 1000 - (k : Int) / 32 % 2 = (lim : Int) := ⟨1000 - k / 32 % 2, by omega⟩
        have hl0 : lim ≤ 1000 ∧ 999 ≤ lim := by omega
        have wl : IntKind.i64.wrap (1000 - (k : Int) / 32 % 2) = (lim : Int) := by rw [IntKind.wrap_i64]; omega
        go_wp2_with fail
        have hlim' := hlim
        have HLIM := hid hlim'
        clear hlim hlim'
        go_loopw [5, 9] (fun v iv wr => ∃ (j2 : Nat) (l2 : List Rn), iv = .int .i64 (j2 : Int) ∧ j2 ≤ l2.length ∧ l2.length ≤ 1000 ∧ Hid (BR l2) ∧ Hid (DcS w wr B rb v l2)) (fun v iv _ => msr v iv)
        case atStart => exact ⟨0, l, rfl, Nat.zero_le _, by omega, HBR, HI⟩
        case round =>
          clear HI HBR
          obtain ⟨j2, l2, rfl, hj2, hl2, hbr, hI⟩ := hrel
          obtain ⟨g, off, c, rfl, fs0, hc1, hc2⟩ := hI.out.form
          clear fs0
          by_cases hll : l2.length < lim
          · have dl : decide ((l2.length : Int) < (lim : Int)) = true := by simp; omega
            obtain ⟨x3, hx3⟩ : ∃ x3 : Nat, 3 * (j2 : Int) = (x3 : Int) := ⟨3 * j2, by omega⟩
            obtain ⟨x, hx⟩ : ∃ x : Nat, 999996000 + (x3 : Int) = (x : Int) := ⟨999996000 + x3, by omega⟩
            have wx3 : IntKind.i64.wrap (3 * (j2 : Int)) = (x3 : Int) := by rw [IntKind.wrap_i64]; omega
            have wx : IntKind.i64.wrap (999996000 + (x3 : Int)) = (x : Int) := by rw [IntKind.wrap_i64]; omega
            have hxb : x ≤ 1000000000 := by omega
            have HO := hid (OffV.below hI.out.off ((Below.refl wr.heap.size wr).alloc (Nat.le_refl _) (.cells #[.int .i64 7, .int .i64 (x : Int), .int .i64 (x : Int)] 41)) (Nat.le_refl _))
            have HNW := hid (cell3A wr (.int .i64 7) (.int .i64 (x : Int)) (.int .i64 (x : Int)) 41)
            have HI := hid hI.out
            have hsz := hI.out.sz
            clear hI hx3 hx
            go_wp2_with (at_builtin; refine wpList_app_off rfl _ _ 23 rfl (w.heap.size + 1) 41 i0 _ 3 24 Tryz.underlying23 hi0 iz0 iz1 iz2 rfl _ _ _ rfl HO.out ⟨wr.heap.size, 0, none⟩ 1 1 [.int .i64 7, .int .i64 (x : Int), .int .i64 (x : Int)] ?g0 rfl ?g1 ?g2 ?g3 ?g4 ?g5 ?_)
            case g0 => rfl
            case g1 => exact HNW.out
            case g2 => intro u hu; simp at hu; rcases hu with rfl | rfl <;> rfl
            case g3 => unfold maxLen; omega
            case g4 => omega
            case g5 => simp; omega
            intro v7 w7 hown7 hgr7 hloc7
            have gg : wr.grownBy w7 (some g) := (World.grownBy_alloc wr _ _).trans hgr7
            have hgl : w.heap.size + 1 ≤ g := by
              obtain ⟨g', e1, h1', _⟩ := OffV.lt HI.out.off
              simp [Value.ownBlock] at e1; omega
            obtain ⟨L, hL⟩ : ∃ L, l2 ++ [((7 : Int), (x : Int), (x : Int))] = L := ⟨_, rfl⟩
            have hLl : L.length = l2.length + 1 := by rw [← hL]; simp
            have hLo : OffR w7 (w.heap.size + 1) v7 L := by
              unfold OffR; rw [hLl, ← hL, fCells_append]; exact hown7
            have hN := HI.out.to hLo (HI.out.rd.below ((Below.refl B wr).grown gg (by omega) (fun k e => by injection e with e; omega))) gg (fun k e => by injection e with e; exact .inr (by omega))
            have HBN : Hid (BR L) := hid (by
              rw [← hL]; intro p hp
              rcases List.mem_append.1 hp with hp | hp
              · exact hbr.out p hp
              · simp at hp; subst hp; simp only; omega)
            have HLL : Hid (gR L l2.length = (7, (x : Int), (x : Int)) ∧ (fCells L).drop (l2.length * 3) = fCells [((7 : Int), (x : Int), (x : Int))]) := hid (by
              rw [← hL]
              refine ⟨by simp [gR, List.getD], ?_⟩
              rw [fCells_append, List.drop_left' (fCells_len l2)])
            obtain ⟨g7, o7, c7, rfl, fs7, hc7, hc7'⟩ := hN.form
            have y7 : w7.cell? ⟨g7, o7, none⟩ = some (.int .i64 (gR L 0).1) := by
              rcases fs7 with h0' | ⟨gg', oo', ee, _, hc⟩
              · omega
              · injection ee with ee
                injection ee with e1 e2 _
                have := (hc 0 (by omega)).1
                rw [Nat.zero_mul, Nat.add_zero, ← e1, ← e2] at this
                exact this
            obtain ⟨p0, hp0⟩ : ∃ p0, (gR L 0).1 = p0 := ⟨_, rfl⟩
            rw [hp0] at y7
            have HN := hid hN
            have HLe := hid hLl
            have i1 : (0 : Int) < (L.length : Int) := by omega
            have hL1 : L.length ≤ 1000 := by omega
            have hL0 : 1 ≤ L.length := by omega
            have hjL : j2 + 1 ≤ L.length := by omega
            clear hown7 hgr7 hloc7 gg hLo hN fs7 hp0 HI HO HNW hL hLl
            by_cases hp7 : p0 = 7
            · subst hp7
              by_cases hj0 : j2 = 0
              · subst hj0
                by_cases hl1 : 1 < L.length
                · have d3 : decide ((1 : Int) < (L.length : Int)) = true := by simp; omega
                  obtain ⟨nn, hnn⟩ : ∃ nn : Nat, (L.length : Int) - 1 = (nn : Int) := ⟨L.length - 1, by omega⟩
                  have wnn : IntKind.i64.wrap ((L.length : Int) - 1) = (nn : Int) := by rw [IntKind.wrap_i64]; omega
                  have i2 : (0 : Int) ≤ (nn : Int) := Int.natCast_nonneg _
                  have i3 : (nn : Int) ≤ (L.length : Int) := by omega
                  have i4 : (nn : Int) ≤ (c7 : Int) := by omega
                  have i5 : nn < c7 := by omega
                  have HNN := hid hnn
                  clear hnn
                  have HDR : Hid (DcS w w7 B rb (.slice (some ⟨g7, o7 + nn * 3, none⟩) (L.length - nn) (c7 - nn)) [((7 : Int), (x : Int), (x : Int))]) := hid (by
                    have q1 := HNN.out
                    have q2 := HLe.out
                    have hnl : nn = l2.length := by omega
                    have hd := OffV.drop HN.out.off nn (by omega)
                    have e1 : L.length - nn = 1 := by omega
                    refine HN.out.to ?_ HN.out.rd (row := none) ⟨rfl, rfl, rfl, Nat.le_refl _, fun _ _ _ => rfl⟩ (fun k e => by cases e)
                    unfold OffR
                    rw [show [((7 : Int), (x : Int), (x : Int))].length = L.length - nn by rw [e1]; rfl, ← HLL.out.2, ← hnl]
                    exact hd)
                  go_wp2_with fail
                  go_roundw
                  case rel => exact ⟨1, [((7 : Int), (x : Int), (x : Int))], by go_num, by simp, by simp, hid (fun p hp => by simp at hp; subst hp; simp only; omega), HDR⟩
                  case measure => exact msr_a (by omega) (by omega) (by omega)
                · have d3 : decide ((1 : Int) < (L.length : Int)) = false := by simp; omega
                  go_wp2_with fail
                  go_roundw
                  case rel => exact ⟨1, L, by go_num, by omega, hL1, HBN, HN⟩
                  case measure => exact msr_a (by omega) (by omega) (by omega)
              · have d2 : ((j2 : Int) == 0) = false := by simp; omega
                go_wp2_with fail
                go_roundw
                case rel => exact ⟨j2 + 1, L, by go_num, by omega, hL1, HBN, HN⟩
                case measure => exact msr_b (by omega) (by omega) (by omega) HLe.out
            · have d1 : (p0 == 7) = false := by simpa using hp7
              go_wp2_with fail
              go_roundw
              case rel => exact ⟨j2 + 1, L, by go_num, by omega, hL1, HBN, HN⟩
              case measure =>
                by_cases hj0 : j2 = 0
                · exact msr_a (by omega) (by omega) (by omega)
                · exact msr_b (by omega) (by omega) (by omega) HLe.out
          · have dl : decide ((l2.length : Int) < (lim : Int)) = false := by simp; omega
            have HOK := hid (specOk (some ⟨g, off, none⟩) l2.length c _ _ _ wr (by omega) (FS.rseg hI.out.fs2))
            have HI := hid hI.out
            clear hI
            go_wp2_with fail
            refine HOK.out.mono ?_
            rintro e w8 ⟨rfl, b8⟩
            have HI8 := hid (HI.out.below b8)
            obtain ⟨bb, hbb⟩ : ∃ bb, ctxB (fun i => (gR l2 i).1) (fun i => (gR l2 i).2.1) (fun i => (gR l2 i).2.2) l2.length = bb := ⟨_, rfl⟩
            rw [hbb]
            clear hbb b8 HOK HI
            cases bb
            · obtain ⟨W9, hW9⟩ : ∃ W9, w8.alloc (.cells #[] 41) = W9 := ⟨_, rfl⟩
              have b9 : Below w8.heap.size w8 W9 := by rw [← hW9]; exact (Below.refl _ _).alloc (Nat.le_refl _) _
              have hN : DcS w W9 B rb (.slice (some ⟨w8.heap.size, 0, none⟩) 0 0) [] := HI8.out.to (by rw [← hW9]; exact OffR.lit w8 _ HI8.out.sz) (HI8.out.below b9).rd (grown_b b9 none) (fun k e => by cases e)
              have c2 := hN.c2
              have z2 := hN.z2
              have HN := hid hN
              clear hN b9
              go_wp2_with fail
              obtain ⟨f1, f2, f3, f4⟩ := HN.out.fin
              refine bodyPost_ret (v := .agg #[.slice (some ⟨w8.heap.size, 0, none⟩) 0 0]) (by simp [results, Tryz.results29, go_sem, f4]) rfl ?_
              exact ⟨_, [], rfl, f1, by simp, (fun p hp => by cases hp), f2, f3⟩
            · have c2 := HI8.out.c2
              have z2 := HI8.out.z2
              go_wp2_with fail
              obtain ⟨f1, f2, f3, f4⟩ := HI8.out.fin
              refine bodyPost_ret (v := .agg #[.slice (some ⟨g, off, none⟩) l2.length c]) (by simp [results, Tryz.results29, go_sem, f4]) rfl ?_
              exact ⟨_, l2, rfl, f1, hl2, hbr.out, f2, f3⟩
      · have d31 : ((k : Int) % 32 == 31) = false := by simp; omega
        have c2 := HI.out.c2
        have z2 := HI.out.z2
        go_wp2_with fail
        obtain ⟨f1, f2, f3, f4⟩ := HI.out.fin
        refine bodyPost_ret (v := .agg #[.slice (some ⟨g, off, none⟩) l.length c]) (by simp [results, Tryz.results29, go_sem, f4]) rfl ?_
        exact ⟨_, l, rfl, f1, by omega, HBR.out, f2, f3⟩
end Go.Proofs.YtbimcammjohaoadGreatDoor
