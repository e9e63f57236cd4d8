import Derived.Test.YthkppnmnjboiaaaDoorFc
namespace Go.Proofs.YthkppnmnjboiaaaDoor
open Go.ChangeShapes Go.WideShapes Go.ChangeAt Go.RowKit
set_option linter.unusedVariables false
set_option linter.unusedSimpArgs false
variable {W0 wr w' : World} {cb N p c : Nat} {F : Nat → Int} {R : Nat × Nat × List (Int × List Int)} {a : Option Addr} {fv : Value} {l : List Fx}

def Stg (wr : World) (cb : Nat) (F : Nat → Int) (N p k : Nat) : Prop :=
  (k = 17 ∧ wr.cell? ⟨cb, 1, none⟩ = some (.int .i64 (p : Int))) ∨
  (k = 27 ∧ wr.cell? ⟨cb, 1, none⟩ = some (.int .i64 ((p + 1 : Nat) : Int)) ∧ p < N ∧ F p = 199) ∨
  (k = 34 ∧ wr.cell? ⟨cb, 1, none⟩ = some (.int .i64 ((p + 2 : Nat) : Int)) ∧ p + 1 < N ∧ F p = 199 ∧ F (p + 1) = 1) ∨
  (k = 37 ∧ wr.cell? ⟨cb, 1, none⟩ = some (.int .i64 ((p + 3 : Nat) : Int)) ∧ wr.cell? ⟨cb, 3, none⟩ = some (.int .i64 (F (p + 2))) ∧ p + 2 < N ∧ F p = 199 ∧ F (p + 1) = 1 ∧ 1 ≤ F (p + 2) ∧ F (p + 2) ≤ 3) ∨
  (k = 40 ∧ ∃ at' ln : Nat, headF (shF F p) (N - p) = (0, at', ln) ∧ at' ≠ 0 ∧ wr.cell? ⟨cb, 1, none⟩ = some (.int .i64 ((p + at' : Nat) : Int)) ∧ wr.cell? ⟨cb, 3, none⟩ = some (.int .i64 (F (p + 2))) ∧ wr.cell? ⟨cb, 4, none⟩ = some (.int .i64 (ln : Int)))
def LpE (W0 wr : World) (cb N : Nat) (R : Nat × Nat × List (Int × List Int)) (a : Option Addr) (c : Nat) : Prop := ∃ fv l, DcE W0 wr cb N R a c fv l
def LpG (W0 wr : World) (cb : Nat) (F : Nat → Int) (N : Nat) (R : Nat × Nat × List (Int × List Int)) (a : Option Addr) (c k : Nat) : Prop := ∃ p fv l, DcI W0 wr cb F N R p a c fv l ∧ Stg wr cb F N p k

def LpR (W0 wr : World) (cb : Nat) (F : Nat → Int) (N : Nat) (R : Nat × Nat × List (Int × List Int)) (a : Option Addr) (c : Nat) (nx : Value) : Prop :=
  (nx = .nilFunc ∧ LpE W0 wr cb N R a c) ∨ ∃ k, nx = .func (.func k) #[] #[] ∧ LpG W0 wr cb F N R a c k
def stN : Value → Nat
  | .func (.func k) _ _ => if k = 17 then 5 else if k = 27 then 4 else if k = 34 then 3 else if k = 37 then 2 else 1
  | _ => 0
def posOf (w : World) (cb : Nat) : Nat := match w.cell? ⟨cb, 2, none⟩ with
  | some (.int _ n) => n.toNat
  | _ => 0
theorem DcI.pos (h : DcI W0 wr cb F N R p a c fv l) : posOf wr cb = p := by simp [posOf, h.c2]
def msr (cb N : Nat) (nx : Value) (w : World) : Nat := match nx with
  | .nilFunc => 0
  | nx => 6 * (N - posOf w cb) + stN nx
theorem msr_fn (cb N k : Nat) (w : World) : msr cb N (.func (.func k) #[] #[]) w = 6 * (N - posOf w cb) + stN (.func (.func k) #[] #[]) := rfl

theorem stepC {k : Nat} (aT aS aL aE : Addr) (hn : N ≤ 4194304) (hF : Byt F) (hB : Bts W0 cb a N F) (hE : Errs W0 cb aT aS aL aE) (hc1 : N ≤ c) (hc2 : c ≤ 9223372036854775807) (h : LpG W0 wr cb F N R a c k) :
    Calls Tryd.prog k #[.pointer (some ⟨cb, 0, none⟩)] wr fun e w' => ∃ nx, e = .returned nx ∧ LpR W0 w' cb F N R a c nx ∧ msr cb N nx w' < msr cb N (.func (.func k) #[] #[]) wr := by
  obtain ⟨p, fv, l, hI, hS⟩ := h
  have hE' := hE.below hI.bel
  have hp := hI.pos
  have hle := hI.le
  rcases hS with ⟨rfl, h1⟩ | ⟨rfl, h1, h2, h3⟩ | ⟨rfl, h1, h2, h3, h4⟩ | ⟨rfl, h1, h2, h3, h4, h5, h6, h7⟩ | ⟨rfl, at', ln, h1, h2, h3, h4, h5⟩
  · refine (rdFirstC aE hn hI h1 hB hE'.gE).mono ?_
    rintro e w' (⟨rfl, h⟩ | ⟨rfl, h, g1, g2, g3⟩)
    · exact ⟨_, rfl, .inl ⟨rfl, fv, l, h⟩, by rw [msr_fn]; show 0 < _; simp [stN]⟩
    · refine ⟨_, rfl, .inr ⟨_, rfl, p, fv, l, h, .inr (.inl ⟨rfl, g1, g2, g3⟩)⟩, ?_⟩
      rw [msr_fn, msr_fn, hp, h.pos]; simp [stN]
  · refine (rdSecondC aE hn hI h1 h2 h3 hB hE'.gE).mono ?_
    rintro e w' (⟨rfl, h⟩ | ⟨rfl, h, g1, g2, g3⟩)
    · exact ⟨_, rfl, .inl ⟨rfl, fv, l, h⟩, by rw [msr_fn]; show 0 < _; simp [stN]⟩
    · refine ⟨_, rfl, .inr ⟨_, rfl, p, fv, l, h, .inr (.inr (.inl ⟨rfl, g1, g2, h3, g3⟩))⟩, ?_⟩
      rw [msr_fn, msr_fn, hp, h.pos]; simp [stN]
  · refine (rdKindC aE hn hF hI h1 h2 h3 h4 hB hE'.gE).mono ?_
    rintro e w' (⟨rfl, h⟩ | ⟨rfl, h, g1, g2, g3, g4, g5⟩)
    · exact ⟨_, rfl, .inl ⟨rfl, fv, l, h⟩, by rw [msr_fn]; show 0 < _; simp [stN]⟩
    · refine ⟨_, rfl, .inr ⟨_, rfl, p, fv, l, h, .inr (.inr (.inr (.inl ⟨rfl, g1, g2, g3, h3, h4, g4, g5⟩)))⟩, ?_⟩
      rw [msr_fn, msr_fn, hp, h.pos]; simp [stN]
  · refine (rdLengthC aT aS aL aE hn hF hI h1 h2 h3 h4 h5 h6 h7 hB hE).mono ?_
    rintro e w' (⟨rfl, h⟩ | ⟨rfl, h, at', ln, g1, g2, g3, g4, g5⟩)
    · exact ⟨_, rfl, .inl ⟨rfl, fv, l, h⟩, by rw [msr_fn]; show 0 < _; simp [stN]⟩
    · refine ⟨_, rfl, .inr ⟨_, rfl, p, fv, l, h, .inr (.inr (.inr (.inr ⟨rfl, at', ln, g1, g2, g3, g4, g5⟩)))⟩, ?_⟩
      rw [msr_fn, msr_fn, hp, h.pos]; simp [stN]
  · refine (rdRestC at' ln hn hF hI h1 h2 h3 h4 h5 hB hc1 hc2).mono ?_
    rintro e w' (⟨rfl, h⟩ | ⟨rfl, z, fv', l', hz, h, g1⟩)
    · exact ⟨_, rfl, .inl ⟨rfl, fv, l, h⟩, by rw [msr_fn]; show 0 < _; simp [stN]⟩
    · refine ⟨_, rfl, .inr ⟨_, rfl, z, fv', l', h, .inl ⟨rfl, g1⟩⟩, ?_⟩
      rw [msr_fn, msr_fn, hp, h.pos]
      have := h.le
      simp [stN]; omega

set_option maxRecDepth 100000 in
set_option maxHeartbeats 1000000 in
theorem implFeedFailG (a1 : Option Addr) (n1 c1 : Nat) (f : Nat → Int) (tk fl : Int) (chv : Value) (w : World) (hn : n1 ≤ 1048576) (hfl : fl ≠ 0) (h1 : Seg w a1 n1 f) :
    Calls Tryd.prog 6 #[.agg #[.slice a1 n1 c1, .int .i64 tk, .int .i64 fl], chv] w fun e w' => Below w.heap.size w w' ∧ ∃ v, e = .returned (.tuple #[.agg #[v, .int .i64 tk, .int .i64 fl], .slice none 0 0]) ∧ Own w' w.heap.size v (payl f n1) := by
  obtain ⟨W, hW⟩ : ∃ W, (w.alloc (.cells #[.slice a1 n1 c1, .int .i64 tk, .int .i64 fl] 25)).alloc (.cells #[.slice none 0 0, .int .i64 0, .int .i64 0] 25) = W := ⟨_, rfl⟩
  have bW : Below w.heap.size w W := by rw [← hW]; exact ((Below.refl _ _).alloc (Nat.le_refl _) _).alloc (by simp) _
  have zW : Hid (W.heap.size = w.heap.size + 2) := by rw [← hW]; exact hid (by simp)
  have k0 : W.cell? ⟨w.heap.size, 0, none⟩ = some (.slice a1 n1 c1) := by rw [← hW]; simp
  have k1 : W.cell? ⟨w.heap.size, 1, none⟩ = some (.int .i64 tk) := by rw [← hW]; simp
  have k2 : W.cell? ⟨w.heap.size, 2, none⟩ = some (.int .i64 fl) := by rw [← hW]; simp
  have l0 : W.cell? ⟨w.heap.size + 1, 0, none⟩ = some (.slice none 0 0) := by rw [← hW]; simp
  have l1 : W.cell? ⟨w.heap.size + 1, 1, none⟩ = some (.int .i64 0) := by rw [← hW]; simp
  have l2 : W.cell? ⟨w.heap.size + 1, 2, none⟩ = some (.int .i64 0) := by rw [← hW]; simp
  have fz : ∀ i, W.frozen? ⟨w.heap.size + 1, i, none⟩ = false := fun i => by rw [← hW]; simp
  have HCP := hid (copyC a1 n1 c1 f W.drew (by omega) (h1.below bW.drew))
  have hd : (fl != 0) = true := by simpa using hfl
  have HBW := hid bW
  have HFZ := hid fz
  clear h1 hfl bW fz
  go_enter Tryd.func6, Tryd.ntmps6
  go_wp2_with fail
  try rw [hW]
  clear hW
  refine wp_region_held_drew (S := fun w' => w'.cell? ⟨w.heap.size, 0, none⟩ = some (.slice a1 n1 c1) ∧ w'.cell? ⟨w.heap.size, 1, none⟩ = some (.int .i64 tk) ∧ w'.cell? ⟨w.heap.size, 2, none⟩ = some (.int .i64 fl)) (by kernel_rfl) ⟨k0, k1, k2⟩ (fun hHeld => ?_)
  refine take1 (i := 0) (d := some 11) (v := ?_) (by kernel_rfl) (by kernel_rfl) (by kernel_rfl) (by kernel_rfl) (fun _ _ _ h => h) ?_ hHeld ?_
  rotate_left
  · (intro o ho; simp only [List.getElem?_toArray, List.getElem?_cons_succ, List.getElem?_cons_zero, Option.some.injEq] at ho; subst ho; refine Or.inl ⟨by rfl, ?_⟩; intro w hSw; (try dsimp only at hSw); go_simp; try with_reducible rfl)
  try simp only [Act.put, List.setIfInBounds_toArray, List.set_cons_zero, List.set_cons_succ]
  refine take1 (i := 1) (d := some 12) (v := ?_) (by kernel_rfl) (by kernel_rfl) (by kernel_rfl) (by kernel_rfl) (fun _ _ _ h => h) ?_ hHeld ?_
  rotate_left
  · (intro o ho; simp only [List.getElem?_toArray, List.getElem?_cons_succ, List.getElem?_cons_zero, Option.some.injEq] at ho; subst ho; refine Or.inl ⟨by rfl, ?_⟩; intro w hSw; (try dsimp only at hSw); go_simp; try with_reducible rfl)
  try simp only [Act.put, List.setIfInBounds_toArray, List.set_cons_zero, List.set_cons_succ]
  refine take1 (i := 3) (d := some 14) (v := ?_) (by kernel_rfl) (by kernel_rfl) (by kernel_rfl) (by kernel_rfl) (fun _ _ _ h => h) ?_ hHeld ?_
  rotate_left
  · (intro o ho; simp only [List.getElem?_toArray, List.getElem?_cons_succ, List.getElem?_cons_zero, Option.some.injEq] at ho; subst ho; refine Or.inl ⟨by rfl, ?_⟩; intro w hSw; (try dsimp only at hSw); go_simp; try with_reducible rfl)
  try simp only [Act.put, List.setIfInBounds_toArray, List.set_cons_zero, List.set_cons_succ]
  refine take1 (i := 4) (d := some 15) (v := ?_) (by kernel_rfl) (by kernel_rfl) (by kernel_rfl) (by kernel_rfl) (fun _ _ _ h => h) ?_ hHeld ?_
  rotate_left
  · (intro o ho; simp only [List.getElem?_toArray, List.getElem?_cons_succ, List.getElem?_cons_zero, Option.some.injEq] at ho; subst ho; refine Or.inl ⟨by rfl, ?_⟩; intro w hSw; (try dsimp only at hSw); go_simp; try with_reducible rfl)
  try simp only [Act.put, List.setIfInBounds_toArray, List.set_cons_zero, List.set_cons_succ]
  refine take1 (i := 5) (d := some 16) (v := ?_) (by kernel_rfl) (by kernel_rfl) (by kernel_rfl) (by kernel_rfl) (fun _ _ _ h => h) ?_ hHeld ?_
  rotate_left
  · (intro o ho; simp only [List.getElem?_toArray, List.getElem?_cons_succ, List.getElem?_cons_zero, Option.some.injEq] at ho; subst ho; refine Or.inl ⟨by rfl, ?_⟩; intro w hSw; (try dsimp only at hSw); go_simp; try with_reducible rfl)
  try simp only [Act.put, List.setIfInBounds_toArray, List.set_cons_zero, List.set_cons_succ]
  refine take1 (i := 6) (d := some 17) (v := ?_) (by kernel_rfl) (by kernel_rfl) (by kernel_rfl) (by kernel_rfl) (fun _ _ _ h => h) ?_ hHeld ?_
  rotate_left
  · (intro o ho; simp only [List.getElem?_toArray, List.getElem?_cons_succ, List.getElem?_cons_zero, Option.some.injEq] at ho; subst ho; refine Or.inl ⟨by rfl, ?_⟩; intro w hSw; (try dsimp only at hSw); go_simp; try with_reducible rfl)
  try simp only [Act.put, List.setIfInBounds_toArray, List.set_cons_zero, List.set_cons_succ]
  refine call1 (i := 2) (d := some 13) (by kernel_rfl) (by kernel_rfl) ?_
  intro o ho hod K hK; simp only [List.getElem?_toArray, List.getElem?_cons_succ, List.getElem?_cons_zero, Option.some.injEq] at ho; subst ho
  go_simp
  refine HCP.out.mono ?_
  rintro e w5 ⟨v5, rfl, o5, b5⟩
  obtain ⟨pa, pc, rfl, _⟩ := o5.any
  rw [payl_len] at o5 ⊢
  have zl : ∀ i, i < 2 → w.heap.size + i < W.drew.heap.size := fun i hi => by have h2 := zW.out; show _ < W.heap.size; omega
  have kc := fun i => b5.cell (p := ⟨w.heap.size, i, none⟩) (zl 0 (by omega))
  have lc := fun i => b5.cell (p := ⟨w.heap.size + 1, i, none⟩) (zl 1 (by omega))
  have fc := fun i => (b5.frozen (p := ⟨w.heap.size + 1, i, none⟩) (zl 1 (by omega))).trans (HFZ.out i)
  have S5 := And.intro ((kc 0).trans k0) (And.intro ((kc 1).trans k1) ((kc 2).trans k2))
  have m0 := (lc 0).trans l0
  have m1 := (lc 1).trans l1
  have m2 := (lc 2).trans l2
  have f0 := fc 0
  have f1 := fc 1
  have f2 := fc 2
  clear kc lc fc
  refine hK.out _ _ S5 (fun hHeld => ?_)
  clear hK K
  try simp only [Act.put, List.setIfInBounds_toArray, List.set_cons_zero, List.set_cons_succ]
  refine take1 (i := 7) (d := some 18) (v := ?_) (by kernel_rfl) (by kernel_rfl) (by kernel_rfl) (by kernel_rfl) (fun _ _ _ h => h) ?_ hHeld ?_
  rotate_left
  · (intro o ho; simp only [List.getElem?_toArray, List.getElem?_cons_succ, List.getElem?_cons_zero, Option.some.injEq] at ho; subst ho; refine Or.inl ⟨by rfl, ?_⟩; intro w hSw; (try dsimp only at hSw); go_simp; try with_reducible rfl)
  try simp only [Act.put, List.setIfInBounds_toArray, List.set_cons_zero, List.set_cons_succ]
  refine call1 (i := 8) (d := none) (by kernel_rfl) (by kernel_rfl) ?_
  intro o ho hod K hK; simp only [List.getElem?_toArray, List.getElem?_cons_succ, List.getElem?_cons_zero, Option.some.injEq] at ho; subst ho
  go_simp
  have G3 := grown3 w5 (w.heap.size + 1) (.slice pa n1 pc) (.int .i64 tk) (.int .i64 fl)
  have e3 := box3E (.slice pa n1 pc) (.int .i64 tk) (.int .i64 fl) m0 m1 m2
  obtain ⟨W6, hW6⟩ : ∃ W6, ((w5.setCell ⟨w.heap.size + 1, 0, none⟩ (.slice pa n1 pc)).setCell ⟨w.heap.size + 1, 1, none⟩ (.int .i64 tk)).setCell ⟨w.heap.size + 1, 2, none⟩ (.int .i64 fl) = W6 := ⟨_, rfl⟩
  rw [hW6] at G3 e3 ⊢
  have nb : ∀ i, W6.cell? ⟨w.heap.size, i, none⟩ = w5.cell? ⟨w.heap.size, i, none⟩ := fun i => World.cell?_of_block (a := ⟨w.heap.size, i, none⟩) (G3.block w.heap.size (Nat.lt_of_lt_of_le (zl 0 (by omega)) b5.size) (by simp))
  refine hK.out _ _ ⟨(nb 0).trans S5.1, (nb 1).trans S5.2.1, (nb 2).trans S5.2.2⟩ (fun hHeld => ?_)
  clear hK K
  try simp only [Act.put, List.setIfInBounds_toArray, List.set_cons_zero, List.set_cons_succ]
  refine take1 (i := 9) (d := some 5) (v := ?_) (by kernel_rfl) (by kernel_rfl) (by kernel_rfl) (by kernel_rfl) (fun _ _ _ h => h) ?_ hHeld ?_
  rotate_left
  · (intro o ho; simp only [List.getElem?_toArray, List.getElem?_cons_succ, List.getElem?_cons_zero, Option.some.injEq] at ho; subst ho; refine Or.inl ⟨by rfl, ?_⟩; intro w hSw; (try dsimp only at hSw); go_simp; try with_reducible rfl)
  try simp only [Act.put, List.setIfInBounds_toArray, List.set_cons_zero, List.set_cons_succ]
  refine wpAnyH_done (by kernel_rfl) ?_ _
  obtain ⟨x0, x1, x2⟩ := e3
  have B6 : Hid (Below w.heap.size w W6) := hid ((HBW.out.drew.trans (b5.mono (by have h2 := zW.out; show _ ≤ W.heap.size; omega))).grown G3 (by have := b5.size; have h2 := zW.out; have h3 : W.heap.size ≤ w5.heap.size := this; omega) (fun k hk => by injection hk with hk; omega))
  have O6 : Hid (Own W6 w.heap.size (.slice pa n1 pc) (payl f n1)) := hid ((own_weak o5 (by have h2 := zW.out; show _ ≤ W.heap.size; omega)).gr G3 (fun g hg e => by
    have := (World.ownsRow.lt o5 g hg).1
    have h2 := zW.out
    have h3 : W.heap.size ≤ g := this
    injection e with e; omega))
  clear hHeld hW6 nb G3 o5 b5 S5 HCP k0 k1 k2 l0 l1 l2 m0 m1 m2 f0 f1 f2 zl HFZ
  go_wp2_with fail
  refine bodyPost_ret (v := .tuple #[.agg #[.slice pa n1 pc, .int .i64 tk, .int .i64 fl], .slice none 0 0]) (by simp [results, Tryd.results6, go_sem, x0, x1, x2]) rfl ?_
  exact ⟨B6.out, _, rfl, O6.out⟩
theorem implFeedFail (g1 n1 c1 : Nat) (f : Nat → Int) (tk fl : Int) (chv : Value) (w : World) (hn : n1 ≤ 1048576) (hfl : fl ≠ 0) (h1 : Seg w (some ⟨g1, 0, none⟩) n1 f) :
    Calls Tryd.prog 6 #[.agg #[.slice (some ⟨g1, 0, none⟩) n1 c1, .int .i64 tk, .int .i64 fl], chv] w fun e w' => Below w.heap.size w w' ∧ ∃ v, e = .returned (.tuple #[.agg #[v, .int .i64 tk, .int .i64 fl], .slice none 0 0]) ∧ Own w' w.heap.size v (payl f n1) :=
  implFeedFailG (some ⟨g1, 0, none⟩) n1 c1 f tk fl chv w hn hfl h1
end Go.Proofs.YthkppnmnjboiaaaDoor
