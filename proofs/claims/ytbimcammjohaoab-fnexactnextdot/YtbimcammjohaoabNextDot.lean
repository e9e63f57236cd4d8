import Derived.Test.YtbimcammjohaoabNext3
import Derived.Test.YtbimcammjohaoabEq
import Derived.Test.YtbimcammjohaoabOpen
namespace Go.Proofs.Ytbimcammjohaoab.fnExactNextDot
open Go.ChangeShapes Go.WideShapes Go.ChangeAt Go.RowKit Go.Maps
set_option linter.unusedVariables false
set_option linter.unusedSimpArgs false

def ndX (R F T : Nat → Int) (rep : Int) (n : Nat) : Int := if nextOk R F T rep n = true then rep else 0
def ndY (R F T : Nat → Int) (rep : Int) (n : Nat) : Int := if nextOk R F T rep n = true then topK R T rep n + 1 else 0

theorem join {R F T : Nat → Int} {rep : Int} {n : Nat} {e : Ending} (h1 : nextOk R F T rep n = true → e = .returned (.tuple #[.agg #[.int .i64 rep, .int .i64 (topK R T rep n + 1)], .bool true])) (h2 : nextOk R F T rep n = false → e = .returned (.tuple #[.agg #[.int .i64 0, .int .i64 0], .bool false])) :
    e = .returned (.tuple #[.agg #[.int .i64 (ndX R F T rep n), .int .i64 (ndY R F T rep n)], .bool (nextOk R F T rep n)]) := by
  cases h : nextOk R F T rep n with
  | false => rw [h2 h]; simp [ndX, ndY, h]
  | true => rw [h1 h]; simp [ndX, ndY, h]

set_option maxRecDepth 100000 in
set_option maxHeartbeats 1000000 in
theorem walk (w : World) (a : Option Addr) (n c : Nat) (R F T : Nat → Int) (hn : n ≤ 9223372036854775807) (h : RSeg w a n R F T) (iR : I64 R) (iF : I64 F) (iT : I64 T) (rep : Int) (hrep : (Lit.int .i64 rep).wf = true) :
    Calls Try.prog 6 #[.agg #[.slice a n c], .int .i64 rep] w fun e w' => e = .returned (.bool true) ∧ Below w.heap.size w w' := by
  have B0 : Below w.heap.size w (w.alloc (.cells #[.slice a n c] 24)) := (Below.refl _ _).alloc (Nat.le_refl _) _
  go_enter Try.func6, Try.ntmps6
  go_wp2_with fail
  refine (szContext a n c 1048576 _ hn (by omega) (by omega)).mono ?_
  rintro e w1 ⟨rfl, b1⟩
  have hbox : w1.cell? ⟨w.heap.size, 0, none⟩ = some (.slice a n c) := by rw [(bcell b1).1 _ _ (by simp)]; simp
  have B1 := keepS B0 b1
  have z1 : w.heap.size < w1.heap.size := by have := b1.size; simp at this; omega
  clear b1 B0
  by_cases hl : n ≤ 1048576
  · rw [show szLeft 1048576 n = 1048576 - n from if_neg (by omega)]
    go_wp2_with fail
    refine (toContext a n c R F T _ hl (h.below B1)).mono ?_
    rintro e w2 ⟨g2, hg2, hg2', rfl, s2, b2⟩
    have z2 := b2.size
    have hbox2 := (b2.cell (p := ⟨w.heap.size, 0, none⟩) z1).trans hbox
    go_wp2_with fail
    refine (specNext _ n n R F T rep _ hl s2 iT).mono ?_
    rintro e w3 ⟨p1, p2, b3⟩
    have he := join p1 p2
    subst he
    clear p1 p2
    have z3 := b3.size
    have hbox3 := (b3.cell (p := ⟨w.heap.size, 0, none⟩) (show w.heap.size < w2.heap.size by omega)).trans hbox2
    have B3 := keepS (keepS B1 b2) b3
    obtain ⟨W4, hW4⟩ : ∃ W4, w3.alloc (.cells #[.int .i64 (ndX R F T rep n), .int .i64 (ndY R F T rep n)] 37) = W4 := ⟨_, rfl⟩
    have b4 : Below w3.heap.size w3 W4 := by rw [← hW4]; exact (Below.refl _ _).alloc (Nat.le_refl _) _
    have z4 : W4.heap.size = w3.heap.size + 1 := by rw [← hW4]; simp
    have e0 : W4.cell? ⟨w3.heap.size, 0, none⟩ = some (.int .i64 (ndX R F T rep n)) := by rw [← hW4]; simp
    have e1 : W4.cell? ⟨w3.heap.size, 1, none⟩ = some (.int .i64 (ndY R F T rep n)) := by rw [← hW4]; simp
    have hbox4 := (b4.cell (p := ⟨w.heap.size, 0, none⟩) (show w.heap.size < w3.heap.size by omega)).trans hbox3
    have B4 := keepS B3 b4
    clear hbox hbox2 hbox3 b2 b3 b4 s2 B1 B3
    generalize hX : ndX R F T rep n = X at *
    generalize hY : ndY R F T rep n = Y at *
    generalize hO : nextOk R F T rep n = O at *
    have HX := hid hX
    have HY := hid hY
    have HO := hid hO
    clear hX hY hO
    go_wp2_with fail
    try rw [hW4]
    refine (toContext a n c R F T _ hl (h.below B4)).mono ?_
    rintro e w5 ⟨g5, hg5, hg5', rfl, s5, b5⟩
    clear hW4
    have z5 := b5.size
    have hbox5 := (b5.cell (p := ⟨w.heap.size, 0, none⟩) (show w.heap.size < W4.heap.size by omega)).trans hbox4
    have e05 := (b5.cell (p := ⟨w3.heap.size, 0, none⟩) (show w3.heap.size < W4.heap.size by omega)).trans e0
    have e15 := (b5.cell (p := ⟨w3.heap.size, 1, none⟩) (show w3.heap.size < W4.heap.size by omega)).trans e1
    have B5 := keepS B4 b5
    obtain ⟨W6, hW6⟩ : ∃ W6, w5.alloc (.cells #[.slice (some ⟨g5, 0, none⟩) n n] 29) = W6 := ⟨_, rfl⟩
    have b6 : Below w5.heap.size w5 W6 := by rw [← hW6]; exact (Below.refl _ _).alloc (Nat.le_refl _) _
    have z6 : W6.heap.size = w5.heap.size + 1 := by rw [← hW6]; simp
    have x6 : W6.cell? ⟨w5.heap.size, 0, none⟩ = some (.slice (some ⟨g5, 0, none⟩) n n) := by rw [← hW6]; simp
    have hbox6 := (b6.cell (p := ⟨w.heap.size, 0, none⟩) (show w.heap.size < w5.heap.size by omega)).trans hbox5
    have e06 := (b6.cell (p := ⟨w3.heap.size, 0, none⟩) (show w3.heap.size < w5.heap.size by omega)).trans e05
    have e16 := (b6.cell (p := ⟨w3.heap.size, 1, none⟩) (show w3.heap.size < w5.heap.size by omega)).trans e15
    have s6 := s5.below b6
    have B6 := keepS B5 b6
    clear hbox4 hbox5 e0 e1 e05 e15 s5 b5 b6 B4 B5
    go_wp2_with fail
    try rw [hW6]
    refine (implNext _ n n R F T rep _ hl s6 iT hrep).mono ?_
    rintro e w7 ⟨p1, p2, b7⟩
    have he := join p1 p2
    rw [HX.out, HY.out, HO.out] at he
    subst he
    clear p1 p2 hW6
    have z7 := b7.size
    have x7 := (b7.cell (p := ⟨w5.heap.size, 0, none⟩) (show w5.heap.size < W6.heap.size by omega)).trans x6
    have hbox7 := (b7.cell (p := ⟨w.heap.size, 0, none⟩) (show w.heap.size < W6.heap.size by omega)).trans hbox6
    have e07 := (b7.cell (p := ⟨w3.heap.size, 0, none⟩) (show w3.heap.size < W6.heap.size by omega)).trans e06
    have e17 := (b7.cell (p := ⟨w3.heap.size, 1, none⟩) (show w3.heap.size < W6.heap.size by omega)).trans e16
    have s7 := s6.below b7
    have B7 := keepS B6 b7
    obtain ⟨W8, hW8⟩ : ∃ W8, w7.alloc (.cells #[.int .i64 X, .int .i64 Y] 37) = W8 := ⟨_, rfl⟩
    have b8 : Below w7.heap.size w7 W8 := by rw [← hW8]; exact (Below.refl _ _).alloc (Nat.le_refl _) _
    have z8 : W8.heap.size = w7.heap.size + 1 := by rw [← hW8]; simp
    have d0 : W8.cell? ⟨w7.heap.size, 0, none⟩ = some (.int .i64 X) := by rw [← hW8]; simp
    have d1 : W8.cell? ⟨w7.heap.size, 1, none⟩ = some (.int .i64 Y) := by rw [← hW8]; simp
    have x8 := (b8.cell (p := ⟨w5.heap.size, 0, none⟩) (show w5.heap.size < w7.heap.size by omega)).trans x7
    have hbox8 := (b8.cell (p := ⟨w.heap.size, 0, none⟩) (show w.heap.size < w7.heap.size by omega)).trans hbox7
    have e08 := (b8.cell (p := ⟨w3.heap.size, 0, none⟩) (show w3.heap.size < w7.heap.size by omega)).trans e07
    have e18 := (b8.cell (p := ⟨w3.heap.size, 1, none⟩) (show w3.heap.size < w7.heap.size by omega)).trans e17
    have s8 := s7.below b8
    have B8 := keepS B7 b8
    clear hbox6 hbox7 e06 e16 e07 e17 x6 x7 s6 s7 b7 b8 B6 B7
    go_wp2_with fail
    try rw [hW8]
    refine (eqDot X Y _).mono ?_
    rintro e w9 ⟨rfl, b9⟩
    clear hW8
    have z9 := b9.size
    have x9 := (b9.cell (p := ⟨w5.heap.size, 0, none⟩) (show w5.heap.size < W8.heap.size by omega)).trans x8
    have hbox9 := (b9.cell (p := ⟨w.heap.size, 0, none⟩) (show w.heap.size < W8.heap.size by omega)).trans hbox8
    have zx : w5.heap.size < w9.heap.size := by omega
    have zw : w.heap.size < w9.heap.size := by omega
    have HS := hid (s8.below b9)
    have HB := hid (keepS B8 b9)
    have HH := hid h
    clear hbox8 x8 e08 e18 d0 d1 s8 b9 B8 h
    go_wp2_with fail
    refine wp_region_held_drew (S := fun w' => Below w9.heap.size w9 w' ∧ w'.cell? ⟨w5.heap.size, 0, none⟩ = some (.slice (some ⟨g5, 0, none⟩) n n) ∧ w'.cell? ⟨w.heap.size, 0, none⟩ = some (.slice a n c)) (by kernel_rfl) ⟨(Below.refl _ _).drew, x9, hbox9⟩ (fun hHeld => ?_)
    refine take1 (i := 0) (d := some 40) (v := ?_) (by kernel_rfl) (by kernel_rfl) (by kernel_rfl) (by kernel_rfl) (fun _ _ _ h => h) ?_ hHeld ?_
    rotate_left
    · (intro o ho; simp only [List.getElem?_toArray, List.getElem?_cons_succ, List.getElem?_cons_zero, Option.some.injEq] at ho; subst ho; refine Or.inl ⟨by rfl, ?_⟩; intro w hSw; (try dsimp only at hSw); go_simp; try with_reducible rfl)
    try simp only [Act.put, List.setIfInBounds_toArray, List.set_cons_zero, List.set_cons_succ]
    refine take1 (i := 1) (d := some 41) (v := ?_) (by kernel_rfl) (by kernel_rfl) (by kernel_rfl) (by kernel_rfl) (fun _ _ _ h => h) ?_ hHeld ?_
    rotate_left
    · (intro o ho; simp only [List.getElem?_toArray, List.getElem?_cons_succ, List.getElem?_cons_zero, Option.some.injEq] at ho; subst ho; refine Or.inl ⟨by rfl, ?_⟩; intro w hSw; (try dsimp only at hSw); go_simp; try with_reducible rfl)
    try simp only [Act.put, List.setIfInBounds_toArray, List.set_cons_zero, List.set_cons_succ]
    refine call1 (i := 2) (d := some 42) (by kernel_rfl) (by kernel_rfl) ?_
    intro o ho hod K hK; simp only [List.getElem?_toArray, List.getElem?_cons_succ, List.getElem?_cons_zero, Option.some.injEq] at ho; subst ho
    go_simp
    refine (toContext a n c R F T _ hl (HH.out.below (keepS HB.out hHeld.1))).mono ?_
    rintro e wa ⟨ga, hga, hga', rfl, sa, ba⟩
    have hB := keepS hHeld.1 ba
    refine hK.out _ _ ⟨hB, (hB.cell (p := ⟨w5.heap.size, 0, none⟩) zx).trans x9, (hB.cell (p := ⟨w.heap.size, 0, none⟩) zw).trans hbox9⟩ (fun hHeld => ?_)
    clear hK K
    try simp only [Act.put, List.setIfInBounds_toArray, List.set_cons_zero, List.set_cons_succ]
    refine call1 (i := 3) (d := some 43) (by kernel_rfl) (by kernel_rfl) ?_
    intro o ho hod K hK; simp only [List.getElem?_toArray, List.getElem?_cons_succ, List.getElem?_cons_zero, Option.some.injEq] at ho; subst ho
    go_simp
    refine (eqContext _ _ n n n R F T _ hl (HS.out.below hB) sa).mono ?_
    rintro e wb ⟨rfl, bb⟩
    have hB8 := keepS hB bb
    refine hK.out _ _ ⟨hB8, (hB8.cell (p := ⟨w5.heap.size, 0, none⟩) zx).trans x9, (hB8.cell (p := ⟨w.heap.size, 0, none⟩) zw).trans hbox9⟩ (fun hHeld => ?_)
    clear hK K
    try simp only [Act.put, List.setIfInBounds_toArray, List.set_cons_zero, List.set_cons_succ]
    refine take1 (i := 4) (d := some 44) (v := ?_) (by kernel_rfl) (by kernel_rfl) (by kernel_rfl) (by kernel_rfl) (fun _ _ _ h => h) ?_ hHeld ?_
    rotate_left
    · (intro o ho; simp only [List.getElem?_toArray, List.getElem?_cons_succ, List.getElem?_cons_zero, Option.some.injEq] at ho; subst ho; refine Or.inl ⟨by rfl, ?_⟩; intro w hSw; (try dsimp only at hSw); go_simp; try with_reducible rfl)
    try simp only [Act.put, List.setIfInBounds_toArray, List.set_cons_zero, List.set_cons_succ]
    refine wpAnyH_done (by kernel_rfl) ?_ _
    have HZ := hid (keepS HB.out hB8)
    clear hHeld hB hB8 ba bb sa
    go_wp2_with fail
    go_ret
    exact ⟨rfl, HZ.out⟩
  · rw [show szLeft 1048576 n = -1 from if_pos (by omega)]
    have HB := hid B1
    clear B1
    go_wp2_with fail
    go_ret
    exact ⟨rfl, HB.out⟩

theorem own : ownKnob Try.prog.godebug = none := by kernel_rfl
theorem laidOut : laidOutB Try.prog = true := by kernel_rfl

set_option maxRecDepth 100000 in
theorem lifted (os : Os) (started : os.Started) (H : Type) (enc : TypeId × Value → H) :
    ReturnsInHanded {} Try.checked os 6 .any (Rows.fnExactNextDotSpec.pre6 enc Try.prog Try.f6 Rows.fnExactNextDotRow.domain false) (Rows.fnExactNextDotSpec.post enc Try.prog Try.f6 false true false false) := by
  refine returnsInHanded_of_change (C := Try.checked) own started (by kernel_rfl) Try.func6
    (ChangeSpec.witness6 (enc := enc) (C := Try.checked) false ⟨#[], #[.agg #[.slice none 0 0], .int .i64 0], []⟩ 8 (by kernel_rfl) (by kernel_rfl) (by kernel_rfl) (by kernel_rfl)) ?_
  intro W base args ds gs before hval0 hW hcnd _
  have hval : ∀ (j : Nat) t v, Try.f6.params[j]? = some t → args[j]? = some v → Value.okWide Try.prog W .any base t v := hval0
  have hW' := hW
  obtain ⟨p, q, hA0, hV, rfl, hfz, hnd⟩ := hW
  have hA : DataW.TrodAll enc Try.prog W 0 (fun _ => true) true Try.f6.params.toList args.toList ds p := hA0
  rw [Try.params6] at hA hval
  obtain ⟨v0, vs0, d0, ds0, p0, q0, hargs, rfl, rfl, h0, r0⟩ := trodAll_cons hA
  obtain ⟨v1, vs1, d1, ds1, p1, q1, rfl, rfl, rfl, h1, r1⟩ := trodAll_cons r0
  obtain ⟨rfl, rfl, rfl⟩ := trodAll_nil r1
  obtain rfl : args = #[v0, v1] := by cases args; simp_all
  obtain ⟨rfl, rfl⟩ := trodVars_none hV
  have k0 := h0
  have lt0 : ∀ x ∈ p0, x.block < W.heap.size := by obtain ⟨m, hm⟩ := k0; exact DataW.trod_lt m _ _ _ hm
  obtain ⟨a0, n0, c0, R0, F0, T0, rfl, hl0, s0, iR0, iF0, iT0⟩ := openCtx (hval 0 24 v0 rfl rfl) h0
  obtain ⟨x1, rfl, rfl, rfl, wx1⟩ := open_int Try.underlying3 (hval 1 3 v1 rfl rfl) h1
  clear hA0 hval0
  refine (walk W a0 n0 c0 R0 F0 T0 hl0 (s0) iR0 iF0 iT0 x1 wx1).mono fun e W' ⟨he, bel⟩ => ?_
  subst he
  exact ⟨_, rfl, _, _, _, [], _, [], hW', trodAll_mk1 (shut_bool Try.underlying4 _), (trodAll_cons_mk (Below.trod laidOut (by kernel_rfl) (of_decide_eq_true (by kernel_rfl)) k0 bel lt0) (trodAll_cons_mk (shut_int Try.underlying3 wx1) trodAll_mk0)), rfl, bel.frame _, fun h => by cases h⟩

theorem over : Rows.fnExactNextDotRow.holds Try.pinned (OpenSpec.ofChange Rows.fnExactNextDotSpec) :=
  OpenClaim.holds_of_wide 6 Try.f6 rfl rfl rfl rfl rfl rfl rfl ⟨rfl, rfl, rfl, rfl, rfl⟩ rfl rfl rfl rfl rfl (by kernel_rfl) Try.func6 (by kernel_rfl)
    (of_decide_eq_true (by kernel_rfl)) (by unfold Func.isWrapper; first | (rw [if_pos (by decide +kernel)]; kernel_rfl) | (rw [if_neg (by decide +kernel)]; exact ⟨rfl, rfl⟩))
    (fun os started H enc _ => lifted os started H enc)
end Go.Proofs.Ytbimcammjohaoab.fnExactNextDot

namespace Go.Proofs.Ytbimcammjohaoab
theorem nextDotHolds : Rows.FnExactNextDotSaid := fnExactNextDot.over
#print axioms nextDotHolds
end Go.Proofs.Ytbimcammjohaoab
