import Derived.Test.YtbimcammjohaoaeNwM
namespace Go.Proofs.Ytbimcammjohaoae.fnExactNewWorld
open Go.ChangeShapes Go.WideShapes Go.ChangeAt Go.RowKit
set_option linter.unusedVariables false
set_option linter.unusedSimpArgs false

set_option maxRecDepth 100000 in
set_option maxHeartbeats 1000000 in
theorem heldReps (n k0 : Nat) (v : Value) (f : Nat → Int) (xs : List Value) (w : World) (hk0 : k0 ≤ 1000000) (hn1 : n ≤ 1000000) (h : RdR w v n 5 xs) (hx : RepX n (mkR k0 n f) xs) :
    Calls Try.prog 32 #[v, .int .i64 (k0 : Int)] w fun e w' => e = .returned (.int .i64 ((k0 + n : Nat) : Int)) ∧ w' = w := by
  obtain ⟨a, c, rfl, h⟩ := h
  rcases h with h | ⟨b, rfl, hb, hc⟩
  · subst h
    go_enter Try.func32, Try.ntmps32
    go_wp2
    refine wp_loop_rounds 1 ?_; rw [rounds_succ]; go_wp2
    go_ret
    exact ⟨rfl, rfl⟩
  · go_enter Try.func32, Try.ntmps32
    go_wp2_with fail
    go_loop [1, 5] (fun k i => ∃ (j m : Nat), j ≤ n ∧ Hid (m = k0 + j) ∧ i = .int .i64 (j : Int) ∧ k = .int .i64 (m : Int)) (fun _ i => n - (intOf i).toNat)
    case atStart => exact ⟨0, k0, Nat.zero_le _, hid (by omega), rfl, rfl⟩
    case round =>
      obtain ⟨j, m, hj, hm, rfl, rfl⟩ := hrel
      by_cases hlt : j < n
      · obtain ⟨a1, a2, a3, a4, p1, p2, p3, p4, e0, e1, e2, e3, e4⟩ := hx j hlt
        have x0 : w.cell? ⟨b, j * 5, none⟩ = some (.int .i64 (m : Int)) := by
          rw [hc _ (by omega), e0]; unfold mkR; rw [if_pos hlt, hm.out]
        have x1 := (hc (j * 5 + 1) (by omega)).trans e1
        have x2 := (hc (j * 5 + 2) (by omega)).trans e2
        have x3 := (hc (j * 5 + 3) (by omega)).trans e3
        have x4 := (hc (j * 5 + 4) (by omega)).trans e4
        have hmb : m ≤ 2000000 := by have := hm.out; omega
        have i1 : (0 : Int) ≤ (j : Int) := Int.natCast_nonneg _
        have i2 : (j : Int) < (n : Int) := by omega
        have dN : ((m : Int) != (m : Int)) = false := by simp
        have dM : decide ((m : Int) + 1 < 0) = false := by simp; omega
        clear hc hx e0 e1 e2 e3 e4
        go_wp2_with fail
        refine (heldLeaf0 _ _ _ _).mono ?_
        rintro e w1 ⟨rfl, rfl⟩
        go_wp2_with fail
        refine (heldRun0 _ _ _ _).mono ?_
        rintro e w1 ⟨rfl, rfl⟩
        go_wp2_with fail
        refine (heldLeaf0 _ _ _ _).mono ?_
        rintro e w1 ⟨rfl, rfl⟩
        go_wp2_with fail
        refine (heldRun0 _ _ _ _).mono ?_
        rintro e w1 ⟨rfl, rfl⟩
        go_wp2_with fail
        go_round
        case rel => exact ⟨j + 1, m + 1, hlt, hid (by have := hm.out; omega), by go_num, by go_num⟩
        case measure => simp [intOf]; omega
      · obtain rfl : j = n := by omega
        clear hc hx
        have e := hm.out
        clear hm
        subst e
        go_wp2_with fail
        go_ret
        exact ⟨by simp, rfl⟩

set_option maxRecDepth 100000 in
set_option maxHeartbeats 1000000 in
theorem heldPips (n k0 : Nat) (v : Value) (f : Nat → Nat → Int) (xs : List Value) (w : World) (hk0 : k0 ≤ 1000000) (hn1 : n ≤ 1000000) (h : RdR w v n 6 xs) (hx : PipX n (mkP k0 n f) xs) :
    Calls Try.prog 33 #[v, .int .i64 (k0 : Int)] w fun e w' => e = .returned (.int .i64 ((k0 + 4 * n : Nat) : Int)) ∧ w' = w := by
  obtain ⟨a, c, rfl, h⟩ := h
  rcases h with h | ⟨b, rfl, hb, hc⟩
  · subst h
    go_enter Try.func33, Try.ntmps33
    go_wp2
    refine wp_loop_rounds 1 ?_; rw [rounds_succ]; go_wp2
    go_ret
    exact ⟨rfl, rfl⟩
  · go_enter Try.func33, Try.ntmps33
    go_wp2_with fail
    go_loop [1, 5] (fun k i => ∃ (j m : Nat), j ≤ n ∧ Hid (m = k0 + 4 * j) ∧ i = .int .i64 (j : Int) ∧ k = .int .i64 (m : Int)) (fun _ i => n - (intOf i).toNat)
    case atStart => exact ⟨0, k0, Nat.zero_le _, hid (by omega), rfl, rfl⟩
    case round =>
      obtain ⟨j, m, hj, hm, rfl, rfl⟩ := hrel
      by_cases hlt : j < n
      · obtain ⟨a1, a2, p1, p2, e0, e1, e2, e3, e4, e5⟩ := hx j hlt
        obtain ⟨m1, hm1⟩ : ∃ m1 : Nat, m1 = m + 1 := ⟨_, rfl⟩
        obtain ⟨m2, hm2⟩ : ∃ m2 : Nat, m2 = m + 2 := ⟨_, rfl⟩
        obtain ⟨m3, hm3⟩ : ∃ m3 : Nat, m3 = m + 3 := ⟨_, rfl⟩
        have hmb : m ≤ 5000000 := by have := hm.out; omega
        have v1 : IntKind.i64.wrap ((m : Int) + 1) = (m1 : Int) := by rw [IntKind.wrap_i64]; omega
        have v2 : IntKind.i64.wrap ((m1 : Int) + 1) = (m2 : Int) := by rw [IntKind.wrap_i64]; omega
        have v3 : IntKind.i64.wrap ((m2 : Int) + 1) = (m3 : Int) := by rw [IntKind.wrap_i64]; omega
        have v4 : IntKind.i64.wrap ((m3 : Int) + 1) = ((m + 4 : Nat) : Int) := by rw [IntKind.wrap_i64]; omega
        have x0 : w.cell? ⟨b, j * 6, none⟩ = some (.int .i64 (m : Int)) := by
          rw [hc _ (by omega), e0]; unfold mkP; rw [if_pos hlt, Nat.add_zero, hm.out]
        have x1 : w.cell? ⟨b, j * 6 + 1, none⟩ = some (.int .i64 (m1 : Int)) := by
          rw [hc _ (by omega), e1]; unfold mkP; rw [if_pos hlt, hm1, hm.out]
        have x2 := (hc (j * 6 + 2) (by omega)).trans e2
        have x3 := (hc (j * 6 + 3) (by omega)).trans e3
        have x4 : w.cell? ⟨b, j * 6 + 4, none⟩ = some (.int .i64 (m2 : Int)) := by
          rw [hc _ (by omega), e4]; unfold mkP; rw [if_pos hlt, hm2, hm.out]
        have x5 : w.cell? ⟨b, j * 6 + 5, none⟩ = some (.int .i64 (m3 : Int)) := by
          rw [hc _ (by omega), e5]; unfold mkP; rw [if_pos hlt, hm3, hm.out]
        have i1 : (0 : Int) ≤ (j : Int) := Int.natCast_nonneg _
        have i2 : (j : Int) < (n : Int) := by omega
        have d0 : ((m : Int) != (m : Int)) = false := by simp
        have d1 : ((m1 : Int) != (m1 : Int)) = false := by simp
        have d2 : ((m2 : Int) != (m2 : Int)) = false := by simp
        have d3 : ((m3 : Int) != (m3 : Int)) = false := by simp
        have dM : decide ((m2 : Int) < 0) = false := by simp
        clear hc hx e0 e1 e2 e3 e4 e5 hm1 hm2 hm3
        go_wp2_with fail
        refine (hdBB0 _ _ _ _).mono ?_
        rintro e w1 ⟨rfl, rfl⟩
        go_wp2_with fail
        refine (hdB0 _ _ _ _).mono ?_
        rintro e w1 ⟨rfl, rfl⟩
        go_wp2_with fail
        go_round
        case rel => exact ⟨j + 1, m + 4, hlt, hid (by have := hm.out; omega), by go_num, by first | rfl | go_num⟩
        case measure => simp [intOf]; omega
      · obtain rfl : j = n := by omega
        clear hc hx
        have e := hm.out
        clear hm
        subst e
        go_wp2_with fail
        go_ret
        exact ⟨by simp, rfl⟩

theorem But.gr {B : Nat} {w w' : World} {v : Value} (h : But w w' v) (hb : Below B w w') : w.grownBy w' v.ownBlock :=
  ⟨hb.os, hb.tape, hb.output, hb.size, fun k hk hne => h.2 k (fun e => hne e.symm)⟩

set_option maxRecDepth 100000 in
set_option maxHeartbeats 1000000 in
theorem markWld (B n m k0 : Nat) (r p : Value) (f : Nat → Int) (g : Nat → Nat → Int) (xs ys : List Value) (w : World) (hB : B ≤ w.heap.size) (hk0 : k0 ≤ 1000) (hn : n ≤ 1000) (hm : m ≤ 1000) (h1 : w.ownsRow B 60 5 r n xs) (k1 : RepX n f xs) (h2 : w.ownsRow B 68 6 p m ys) (k2 : PipX m g ys) (dj : ∀ k, r.ownBlock = some k → p.ownBlock ≠ some k) :
    Calls Try.prog 9 #[.agg #[r, p], .int .i64 (k0 : Int)] w fun e w' => e = .returned (.int .i64 ((k0 + n + 4 * m : Nat) : Int)) ∧ Below B w w' ∧ ∃ xs' ys', RdR w' r n 5 xs' ∧ RepX n (mkR k0 n f) xs' ∧ RdR w' p m 6 ys' ∧ PipX m (mkP (k0 + n) m g) ys' ∧ (∀ b, b < w.heap.size → r.ownBlock ≠ some b → p.ownBlock ≠ some b → w'.heap[b]? = w.heap[b]?) := by
  obtain ⟨W, hW⟩ : ∃ W, w.alloc (.cells #[r, p] 25) = W := ⟨_, rfl⟩
  have b0 : Below w.heap.size w W := by rw [← hW]; exact (Below.refl _ _).alloc (Nat.le_refl _) _
  have o1 : W.ownsRow B 60 5 r n xs := by rw [← hW]; exact h1.alloc _
  have o2 : W.ownsRow B 68 6 p m ys := by rw [← hW]; exact h2.alloc _
  have c0 : W.cell? ⟨w.heap.size, 0, none⟩ = some r := by rw [← hW]; simp
  have c1 : W.cell? ⟨w.heap.size, 1, none⟩ = some p := by rw [← hW]; simp
  have hr : r.ownBlock ≠ some w.heap.size := fun e => by have := (h1.lt _ e).2; omega
  have HM := hid (markReps B n k0 r f xs W (by omega) (by omega) o1 k1)
  have HP : Hid (∀ w2, w2.ownsRow B 68 6 p m ys → Calls Try.prog 31 #[p, .int .i64 ((k0 + n : Nat) : Int)] w2 fun e w' => e = .returned (.int .i64 ((k0 + n + 4 * m : Nat) : Int)) ∧ Below B w2 w' ∧ But w2 w' p ∧ ∃ xs, w'.ownsRow B 68 6 p m xs ∧ PipX m (mkP (k0 + n) m g) xs) := hid (fun w2 ho => markPips B m (k0 + n) p g ys w2 (by omega) (by omega) ho k2)
  obtain ⟨ra, rc, er, _⟩ := rd_of h1
  obtain ⟨pa, pc, ep, _⟩ := rd_of h2
  have D := hid (And.intro (And.intro o2 b0) (And.intro (And.intro dj hB) hr))
  subst er ep
  clear h1 h2 k1 k2 o1 o2 b0 dj hr
  go_enter Try.func9, Try.ntmps9
  go_wp2_with fail
  try rw [hW]
  clear hW
  refine HM.out.mono ?_
  rintro e w1 ⟨rfl, b1, q1, xs1, r1, x1⟩
  obtain ⟨⟨o2, b0⟩, ⟨dj, hB⟩, hr⟩ := D.out
  have o3 := World.ownsRow.kept o2 (q1.gr b1) (by
    cases e : (Value.slice pa m pc).ownBlock with
    | none => exact .inl rfl
    | some k => exact .inr (fun e2 => dj k e2.symm e))
  have c2 : w1.cell? ⟨w.heap.size, 1, none⟩ = some (.slice pa m pc) := (World.cell?_of_block (q1.2 w.heap.size hr)).trans c1
  have HB1 := hid ((b0.mono hB).trans b1)
  have HK : Hid (∀ b, b < w.heap.size → (Value.slice ra n rc).ownBlock ≠ some b → w1.heap[b]? = w.heap[b]?) := hid (fun b hb h1 => (q1.2 b h1).trans (b0.block b hb))
  have HR1 := hid r1
  have HX1 := hid x1
  have HO3 := hid o3
  have HD := hid dj
  clear b1 q1 r1 x1 o2 b0 dj hB hr o3 c0 c1 D HM
  go_wp2_with fail
  refine (HP.out w1 HO3.out).mono ?_
  rintro e w2 ⟨rfl, b2, q2, ys2, r2, x2⟩
  have r3 := World.ownsRow.kept HR1.out (q2.gr b2) (by
    cases e : (Value.slice ra n rc).ownBlock with
    | none => exact .inl rfl
    | some k => exact .inr (fun e2 => HD.out k e e2.symm))
  have HE : Hid (Below B w w2 ∧ ∃ xs' ys', RdR w2 (.slice ra n rc) n 5 xs' ∧ RepX n (mkR k0 n f) xs' ∧ RdR w2 (.slice pa m pc) m 6 ys' ∧ PipX m (mkP (k0 + n) m g) ys' ∧ (∀ b, b < w.heap.size → (Value.slice ra n rc).ownBlock ≠ some b → (Value.slice pa m pc).ownBlock ≠ some b → w2.heap[b]? = w.heap[b]?)) := hid ⟨HB1.out.trans b2, _, _, rd_of r3, HX1.out, rd_of r2, x2, fun b hb h1 h2 => (q2.2 b h2).trans (HK.out b hb h1)⟩
  clear b2 q2 r2 x2 r3 c2 HP HO3 HD
  go_wp2_with fail
  go_ret
  exact ⟨by simp, HE.out⟩

set_option maxRecDepth 100000 in
set_option maxHeartbeats 1000000 in
theorem heldWld (n m k0 : Nat) (r p : Value) (f : Nat → Int) (g : Nat → Nat → Int) (xs ys : List Value) (w : World) (hk0 : k0 ≤ 1000) (hn : n ≤ 1000) (hm : m ≤ 1000) (h1 : RdR w r n 5 xs) (k1 : RepX n (mkR k0 n f) xs) (h2 : RdR w p m 6 ys) (k2 : PipX m (mkP (k0 + n) m g) ys) :
    Calls Try.prog 10 #[.agg #[r, p], .int .i64 (k0 : Int)] w fun e w' => e = .returned (.int .i64 ((k0 + n + 4 * m : Nat) : Int)) ∧ Below w.heap.size w w' := by
  have b0 : Below w.heap.size w (w.alloc (.cells #[r, p] 25)) := (Below.refl _ _).alloc (Nat.le_refl _) _
  have HM := hid (heldReps n k0 r f xs _ (by omega) (by omega) (h1.below b0 (Nat.le_refl _)) k1)
  have HP := hid (heldPips m (k0 + n) p g ys _ (by omega) (by omega) (h2.below b0 (Nat.le_refl _)) k2)
  obtain ⟨ra, rc, rfl, _⟩ := h1
  obtain ⟨pa, pc, rfl, _⟩ := h2
  have B0 := hid b0
  clear b0 k1 k2
  have d1 : decide (((k0 + n : Nat) : Int) < 0) = false := by simp; omega
  have d2 : decide (((k0 + n + 4 * m : Nat) : Int) < 0) = false := by simp; omega
  obtain ⟨u1, hu1⟩ : ∃ u, k0 + n = u := ⟨_, rfl⟩
  obtain ⟨u2, hu2⟩ : ∃ u, k0 + n + 4 * m = u := ⟨_, rfl⟩
  rw [hu2] at d2 HP ⊢
  rw [hu1] at d1 HP HM
  clear hu1 hu2
  go_enter Try.func10, Try.ntmps10
  go_wp2_with fail
  refine HM.out.mono ?_
  rintro e w1 ⟨rfl, rfl⟩
  go_wp2_with fail
  refine HP.out.mono ?_
  rintro e w2 ⟨rfl, rfl⟩
  go_wp2_with fail
  go_ret
  exact ⟨rfl, B0.out⟩
end Go.Proofs.Ytbimcammjohaoae.fnExactNewWorld
