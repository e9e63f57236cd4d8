import Derived.Deep.QuietTactic
import Derived.BigQuiet
import Derived.Test.YtdenbicnckkdfaaGreatMg03
namespace Go.Proofs.YtdenbicnckkdfaaGreat
open Go.ChangeShapes Go.WideShapes Go.ChangeAt Go.RowKit
set_option linter.unusedVariables false
set_option linter.unusedSimpArgs false

def gS (p : List ByteArray) (i : Nat) : ByteArray := p.getD i ByteArray.empty
def SSeg (w : World) (a : Option Addr) (p : List ByteArray) : Prop :=
  p.length = 0 ∨ ∃ b off, a = some ⟨b, off, none⟩ ∧ b < w.heap.size ∧ ∀ i, i < p.length → w.cell? ⟨b, off + i, none⟩ = some (.string (gS p i))
theorem SSeg.kept {w w1 : World} {B : Nat} {a : Option Addr} {p : List ByteArray} (h : SSeg w a p) (hb : Below B w w1) (hB : w.heap.size ≤ B) : SSeg w1 a p := by
  refine h.imp id ?_
  rintro ⟨b, off, e, hlt, hc⟩
  exact ⟨b, off, e, Nat.lt_of_lt_of_le hlt hb.size, fun i hi => (hb.cell (p := ⟨b, off + i, none⟩) (Nat.lt_of_lt_of_le hlt hB)).trans (hc i hi)⟩
theorem SSeg.below {w w1 : World} {a : Option Addr} {p : List ByteArray} (h : SSeg w a p) (hb : Below w.heap.size w w1) : SSeg w1 a p := h.kept hb (Nat.le_refl _)

structure Lf where
  p : List ByteArray
  fl : Bool
  r : Int
  q : Int
  v : ByteArray
def gL (l : List Lf) (i : Nat) : Lf := l.getD i ⟨[], false, 0, 0, ByteArray.empty⟩

def LSeg (w : World) (a : Option Addr) (l : List Lf) : Prop :=
  l.length = 0 ∨ ∃ b off, a = some ⟨b, off, none⟩ ∧ b < w.heap.size ∧ ∀ i, i < l.length → ∃ pa pc, w.cell? ⟨b, off + i * 5, none⟩ = some (.slice pa (gL l i).p.length pc) ∧ SSeg w pa (gL l i).p ∧ w.cell? ⟨b, off + i * 5 + 1, none⟩ = some (.bool (gL l i).fl) ∧ w.cell? ⟨b, off + i * 5 + 2, none⟩ = some (.int .i64 (gL l i).r) ∧ w.cell? ⟨b, off + i * 5 + 3, none⟩ = some (.int .i64 (gL l i).q) ∧ w.cell? ⟨b, off + i * 5 + 4, none⟩ = some (.string (gL l i).v)
theorem LSeg.below {w w1 : World} {a : Option Addr} {l : List Lf} (h : LSeg w a l) (hb : Below w.heap.size w w1) : LSeg w1 a l := by
  refine h.imp id ?_
  rintro ⟨b, off, e, hlt, hc⟩
  refine ⟨b, off, e, Nat.lt_of_lt_of_le hlt hb.size, fun i hi => ?_⟩
  obtain ⟨pa, pc, c0, s, c1, c2, c3, c4⟩ := hc i hi
  have q := fun o => hb.cell (p := ⟨b, o, none⟩) hlt
  exact ⟨pa, pc, (q _).trans c0, s.below hb, (q _).trans c1, (q _).trans c2, (q _).trans c3, (q _).trans c4⟩

set_option maxRecDepth 100000 in
set_option maxHeartbeats 1000000 in
theorem eqStrings (a a' : Option Addr) (c c' : Nat) (p : List ByteArray) (w : World) (hn : p.length ≤ 1048576) (h : SSeg w a p) (h' : SSeg w a' p) :
    Calls Tryz.prog 115 #[.slice a p.length c, .slice a' p.length c'] w fun e w' => e = .returned (.bool true) ∧ Below w.heap.size w w' := by
  by_cases h0 : p.length = 0
  · rw [h0]
    go_enter Tryz.func115, Tryz.ntmps115
    go_wp2_with fail
    refine wp_loop_rounds 1 ?_; rw [rounds_succ]; go_wp2_with fail
    go_ret
    exact ⟨rfl, Below.refl _ _⟩
  · rcases h with h | ⟨b, off, rfl, hb, hc⟩
    · exact absurd h h0
    rcases h' with h' | ⟨b', off', rfl, hb', hc'⟩
    · exact absurd h' h0
    go_enter Tryz.func115, Tryz.ntmps115
    go_wp2_with fail
    go_loopw [5] (fun i wr => ∃ k : Nat, k ≤ p.length ∧ i = .int .i64 k ∧ Below w.heap.size w wr) (fun i _ => p.length - (intOf i).toNat)
    case atStart => exact ⟨0, Nat.zero_le _, rfl, Below.refl _ _⟩
    case round =>
      obtain ⟨k, hk, rfl, hbel⟩ := hrel
      by_cases hlt : k < p.length
      · have x0 := (hbel.cell (p := ⟨b, off + k, none⟩) hb).trans (hc k hlt)
        have y0 := (hbel.cell (p := ⟨b', off' + k, none⟩) hb').trans (hc' k hlt)
        obtain ⟨s, hs⟩ : ∃ s, gS p k = s := ⟨_, rfl⟩
        rw [hs] at x0 y0
        have hk0 : (0 : Int) ≤ (k : Int) := Int.natCast_nonneg _
        have hk1 : (k : Int) < (p.length : Int) := by omega
        have ds : (s.toList == s.toList) = true := by simp
        have HB := hid hbel
        clear hc hc' hbel hs
        go_wp2_with fail
        go_quiet (fail)
        have HN := hid (show Below w.heap.size w (wr.drewN nq) from ⟨HB.out.os, HB.out.tape, HB.out.output, HB.out.size, HB.out.block⟩)
        go_wp2_with fail
        go_roundw
        case rel => exact ⟨k + 1, hlt, by go_num, HN.out⟩
        case measure => simp [intOf]; omega
      · obtain rfl : k = p.length := by omega
        have HB := hid hbel
        clear hc hc' hbel
        go_wp2_with fail
        go_ret
        exact ⟨rfl, HB.out⟩
set_option maxHeartbeats 400000 in
theorem eqDotC (r q : Int) (w : World) : Calls Tryz.prog 116 #[.agg #[.int .i64 r, .int .i64 q], .agg #[.int .i64 r, .int .i64 q]] w fun e w' => e = .returned (.bool true) ∧ Below w.heap.size w w' := by
  have hr : (r != r) = false := by simp
  have hq : (q != q) = false := by simp
  have HB := hid (((Below.refl w.heap.size w).alloc (Nat.le_refl _) (.cells #[.int .i64 r, .int .i64 q] 67)).alloc (by simp) (.cells #[.int .i64 r, .int .i64 q] 67))
  go_enter Tryz.func116, Tryz.ntmps116
  go_wp2_with fail
  go_ret
  exact ⟨rfl, HB.out⟩
set_option maxRecDepth 100000 in
set_option maxHeartbeats 1000000 in
theorem eqLeafC (a a' : Option Addr) (c c' : Nat) (p : List ByteArray) (fl : Bool) (r q : Int) (v : ByteArray) (w : World) (hn : p.length ≤ 1048576) (h : SSeg w a p) (h' : SSeg w a' p) :
    Calls Tryz.prog 82 #[.agg #[.slice a p.length c, .bool fl, .int .i64 r, .int .i64 q, .string v], .agg #[.slice a' p.length c', .bool fl, .int .i64 r, .int .i64 q, .string v]] w fun e w' => e = .returned (.bool true) ∧ Below w.heap.size w w' := by
  obtain ⟨W, hW⟩ : ∃ W, (w.alloc (.cells #[.slice a p.length c, .bool fl, .int .i64 r, .int .i64 q, .string v] 69)).alloc (.cells #[.slice a' p.length c', .bool fl, .int .i64 r, .int .i64 q, .string v] 69) = W := ⟨_, rfl⟩
  have b0 : Below w.heap.size w W := by rw [← hW]; exact ((Below.refl _ _).alloc (Nat.le_refl _) _).alloc (by simp) _
  have zW : W.heap.size = w.heap.size + 2 := by rw [← hW]; simp
  have k0 : W.cell? ⟨w.heap.size, 0, none⟩ = some (.slice a p.length c) := by rw [← hW]; simp
  have l0 : W.cell? ⟨w.heap.size + 1, 0, none⟩ = some (.slice a' p.length c') := by rw [← hW]; simp
  have k1 : W.cell? ⟨w.heap.size, 1, none⟩ = some (.bool fl) := by rw [← hW]; simp
  have k2 : W.cell? ⟨w.heap.size, 2, none⟩ = some (.int .i64 r) := by rw [← hW]; simp
  have k3 : W.cell? ⟨w.heap.size, 3, none⟩ = some (.int .i64 q) := by rw [← hW]; simp
  have k4 : W.cell? ⟨w.heap.size, 4, none⟩ = some (.string v) := by rw [← hW]; simp
  have l1 : W.cell? ⟨w.heap.size + 1, 1, none⟩ = some (.bool fl) := by rw [← hW]; simp
  have l2 : W.cell? ⟨w.heap.size + 1, 2, none⟩ = some (.int .i64 r) := by rw [← hW]; simp
  have l3 : W.cell? ⟨w.heap.size + 1, 3, none⟩ = some (.int .i64 q) := by rw [← hW]; simp
  have l4 : W.cell? ⟨w.heap.size + 1, 4, none⟩ = some (.string v) := by rw [← hW]; simp
  have HE := hid (eqStrings a a' c c' p W hn (h.below b0) (h'.below b0))
  have HB0 := hid b0
  have HZ := hid zW
  have hf : (fl != fl) = false := by simp
  have hv : (v.toList == v.toList) = true := by simp
  clear h h' b0 zW
  go_enter Tryz.func82, Tryz.ntmps82
  go_wp2_with fail
  try rw [hW]
  clear hW
  refine HE.out.mono ?_
  rintro e w1 ⟨rfl, b1⟩
  have q0 := fun (i : Nat) => b1.cell (p := ⟨w.heap.size, i, none⟩) (show w.heap.size < W.heap.size by have := HZ.out; omega)
  have q1 := fun (i : Nat) => b1.cell (p := ⟨w.heap.size + 1, i, none⟩) (show w.heap.size + 1 < W.heap.size by have := HZ.out; omega)
  have m1 := (q0 1).trans k1
  have m2 := (q0 2).trans k2
  have m3 := (q0 3).trans k3
  have m4 := (q0 4).trans k4
  have n1 := (q1 1).trans l1
  have n2 := (q1 2).trans l2
  have n3 := (q1 3).trans l3
  have n4 := (q1 4).trans l4
  have HB1 := hid (keepS HB0.out b1)
  have hz1 : w.heap.size + 1 < w1.heap.size := by have := b1.size; have := HZ.out; omega
  clear q0 q1 k0 k1 k2 k3 k4 l0 l1 l2 l3 l4 b1 HE
  go_wp2_with fail
  refine (eqDotC r q w1).mono ?_
  rintro e w2 ⟨rfl, b2⟩
  have s4 := (b2.cell (p := ⟨w.heap.size, 4, none⟩) (show w.heap.size < w1.heap.size by omega)).trans m4
  have t4 := (b2.cell (p := ⟨w.heap.size + 1, 4, none⟩) hz1).trans n4
  have HB2 := hid (keepS HB1.out b2)
  clear b2 m1 m2 m3 m4 n1 n2 n3 n4
  go_wp2_with fail
  go_ret
  exact ⟨rfl, HB2.out⟩

def LBd (l : List Lf) : Prop := ∀ i, (gL l i).p.length ≤ 1048576
set_option maxRecDepth 100000 in
set_option maxHeartbeats 1000000 in
theorem eqLeaves (a a' : Option Addr) (c c' : Nat) (l : List Lf) (w : World) (hn : l.length ≤ 1048576) (hp : LBd l) (h : LSeg w a l) (h' : LSeg w a' l) :
    Calls Tryz.prog 49 #[.slice a l.length c, .slice a' l.length c'] w fun e w' => e = .returned (.bool true) ∧ Below w.heap.size w w' := by
  by_cases h0 : l.length = 0
  · rw [h0]
    go_enter Tryz.func49, Tryz.ntmps49
    go_wp2_with fail
    refine wp_loop_rounds 1 ?_; rw [rounds_succ]; go_wp2_with fail
    go_ret
    exact ⟨rfl, Below.refl _ _⟩
  · rcases h with h | ⟨b, off, rfl, hb, hc⟩
    · exact absurd h h0
    rcases h' with h' | ⟨b', off', rfl, hb', hc'⟩
    · exact absurd h' h0
    go_enter Tryz.func49, Tryz.ntmps49
    go_wp2_with fail
    go_loopw [5] (fun i wr => ∃ k : Nat, k ≤ l.length ∧ i = .int .i64 k ∧ Below w.heap.size w wr) (fun i _ => l.length - (intOf i).toNat)
    case atStart => exact ⟨0, Nat.zero_le _, rfl, Below.refl _ _⟩
    case round =>
      obtain ⟨k, hk, rfl, hbel⟩ := hrel
      have zb := Nat.lt_of_lt_of_le hb hbel.size
      have zb' := Nat.lt_of_lt_of_le hb' hbel.size
      by_cases hlt : k < l.length
      · obtain ⟨pa, pc, c0, s, c1, c2, c3, c4⟩ := hc k hlt
        obtain ⟨pa', pc', d0, s', d1, d2, d3, d4⟩ := hc' k hlt
        have hpk := hp k
        obtain ⟨p, hpe⟩ : ∃ p, (gL l k).p = p := ⟨_, rfl⟩
        obtain ⟨fl, hfl⟩ : ∃ fl, (gL l k).fl = fl := ⟨_, rfl⟩
        obtain ⟨r, hr⟩ : ∃ r, (gL l k).r = r := ⟨_, rfl⟩
        obtain ⟨q, hq⟩ : ∃ q, (gL l k).q = q := ⟨_, rfl⟩
        obtain ⟨v, hv⟩ : ∃ v, (gL l k).v = v := ⟨_, rfl⟩
        rw [hpe] at c0 s d0 s' hpk
        rw [hfl] at c1 d1
        rw [hr] at c2 d2
        rw [hq] at c3 d3
        rw [hv] at c4 d4
        have x0 := (hbel.cell (p := ⟨b, off + k * 5, none⟩) hb).trans c0
        have x1 := (hbel.cell (p := ⟨b, off + k * 5 + 1, none⟩) hb).trans c1
        have x2 := (hbel.cell (p := ⟨b, off + k * 5 + 2, none⟩) hb).trans c2
        have x3 := (hbel.cell (p := ⟨b, off + k * 5 + 3, none⟩) hb).trans c3
        have x4 := (hbel.cell (p := ⟨b, off + k * 5 + 4, none⟩) hb).trans c4
        have y0 := (hbel.cell (p := ⟨b', off' + k * 5, none⟩) hb').trans d0
        have y1 := (hbel.cell (p := ⟨b', off' + k * 5 + 1, none⟩) hb').trans d1
        have y2 := (hbel.cell (p := ⟨b', off' + k * 5 + 2, none⟩) hb').trans d2
        have y3 := (hbel.cell (p := ⟨b', off' + k * 5 + 3, none⟩) hb').trans d3
        have y4 := (hbel.cell (p := ⟨b', off' + k * 5 + 4, none⟩) hb').trans d4
        have HS1 := hid (s.below hbel)
        have HS2 := hid (s'.below hbel)
        have hk0 : (0 : Int) ≤ (k : Int) := Int.natCast_nonneg _
        have hk1 : (k : Int) < (l.length : Int) := by omega
        have HB := hid hbel
        clear hc hc' hbel c0 s c1 c2 c3 c4 d0 s' d1 d2 d3 d4 hpe hfl hr hq hv hp
        go_wp2_with fail
        refine wp_region_held_drew (S := fun w' => Below wr.heap.size wr w' ∧ w'.cell? ⟨b, off + k * 5, none⟩ = some (.slice pa p.length pc) ∧ w'.cell? ⟨b, off + k * 5 + 1, none⟩ = some (.bool fl) ∧ w'.cell? ⟨b, off + k * 5 + 2, none⟩ = some (.int .i64 r) ∧ w'.cell? ⟨b, off + k * 5 + 3, none⟩ = some (.int .i64 q) ∧ w'.cell? ⟨b, off + k * 5 + 4, none⟩ = some (.string v) ∧ w'.cell? ⟨b', off' + k * 5, none⟩ = some (.slice pa' p.length pc') ∧ w'.cell? ⟨b', off' + k * 5 + 1, none⟩ = some (.bool fl) ∧ w'.cell? ⟨b', off' + k * 5 + 2, none⟩ = some (.int .i64 r) ∧ w'.cell? ⟨b', off' + k * 5 + 3, none⟩ = some (.int .i64 q) ∧ w'.cell? ⟨b', off' + k * 5 + 4, none⟩ = some (.string v)) (by kernel_rfl) ⟨(Below.refl _ _).drew, x0, x1, x2, x3, x4, y0, y1, y2, y3, y4⟩ (fun hHeld => ?_)
        refine take1 (i := 0) (d := some 17) (v := ?_) (by kernel_rfl) (by kernel_rfl) (by kernel_rfl) (by kernel_rfl) (fun _ _ _ h => h) ?_ hHeld ?_
        rotate_left
        · (intro o ho; simp only [List.getElem?_toArray, List.getElem?_cons_succ, List.getElem?_cons_zero, Option.some.injEq] at ho; subst ho; refine Or.inl ⟨by rfl, ?_⟩; intro w hSw; (try dsimp only at hSw); go_simp; try with_reducible rfl)
        try simp only [Act.put, List.setIfInBounds_toArray, List.set_cons_zero, List.set_cons_succ]
        refine take1 (i := 1) (d := some 18) (v := ?_) (by kernel_rfl) (by kernel_rfl) (by kernel_rfl) (by kernel_rfl) (fun _ _ _ h => h) ?_ hHeld ?_
        rotate_left
        · (intro o ho; simp only [List.getElem?_toArray, List.getElem?_cons_succ, List.getElem?_cons_zero, Option.some.injEq] at ho; subst ho; refine Or.inl ⟨by rfl, ?_⟩; intro w hSw; (try dsimp only at hSw); go_simp; try with_reducible rfl)
        try simp only [Act.put, List.setIfInBounds_toArray, List.set_cons_zero, List.set_cons_succ]
        refine take1 (i := 2) (d := some 19) (v := ?_) (by kernel_rfl) (by kernel_rfl) (by kernel_rfl) (by kernel_rfl) (fun _ _ _ h => h) ?_ hHeld ?_
        rotate_left
        · (intro o ho; simp only [List.getElem?_toArray, List.getElem?_cons_succ, List.getElem?_cons_zero, Option.some.injEq] at ho; subst ho; refine Or.inl ⟨by rfl, ?_⟩; intro w hSw; (try dsimp only at hSw); go_simp; try with_reducible rfl)
        try simp only [Act.put, List.setIfInBounds_toArray, List.set_cons_zero, List.set_cons_succ]
        refine take1 (i := 3) (d := some 20) (v := ?_) (by kernel_rfl) (by kernel_rfl) (by kernel_rfl) (by kernel_rfl) (fun _ _ _ h => h) ?_ hHeld ?_
        rotate_left
        · (intro o ho; simp only [List.getElem?_toArray, List.getElem?_cons_succ, List.getElem?_cons_zero, Option.some.injEq] at ho; subst ho; refine Or.inl ⟨by rfl, ?_⟩; intro w hSw; (try dsimp only at hSw); go_simp; try with_reducible rfl)
        try simp only [Act.put, List.setIfInBounds_toArray, List.set_cons_zero, List.set_cons_succ]
        refine take1 (i := 4) (d := some 21) (v := ?_) (by kernel_rfl) (by kernel_rfl) (by kernel_rfl) (by kernel_rfl) (fun _ _ _ h => h) ?_ hHeld ?_
        rotate_left
        · (intro o ho; simp only [List.getElem?_toArray, List.getElem?_cons_succ, List.getElem?_cons_zero, Option.some.injEq] at ho; subst ho; refine Or.inl ⟨by rfl, ?_⟩; intro w hSw; (try dsimp only at hSw); go_simp; try with_reducible rfl)
        try simp only [Act.put, List.setIfInBounds_toArray, List.set_cons_zero, List.set_cons_succ]
        refine take1 (i := 5) (d := some 22) (v := ?_) (by kernel_rfl) (by kernel_rfl) (by kernel_rfl) (by kernel_rfl) (fun _ _ _ h => h) ?_ hHeld ?_
        rotate_left
        · (intro o ho; simp only [List.getElem?_toArray, List.getElem?_cons_succ, List.getElem?_cons_zero, Option.some.injEq] at ho; subst ho; refine Or.inl ⟨by rfl, ?_⟩; intro w hSw; (try dsimp only at hSw); go_simp; try with_reducible rfl)
        try simp only [Act.put, List.setIfInBounds_toArray, List.set_cons_zero, List.set_cons_succ]
        refine take1 (i := 6) (d := some 23) (v := ?_) (by kernel_rfl) (by kernel_rfl) (by kernel_rfl) (by kernel_rfl) (fun _ _ _ h => h) ?_ hHeld ?_
        rotate_left
        · (intro o ho; simp only [List.getElem?_toArray, List.getElem?_cons_succ, List.getElem?_cons_zero, Option.some.injEq] at ho; subst ho; refine Or.inl ⟨by rfl, ?_⟩; intro w hSw; (try dsimp only at hSw); go_simp; try with_reducible rfl)
        try simp only [Act.put, List.setIfInBounds_toArray, List.set_cons_zero, List.set_cons_succ]
        refine take1 (i := 7) (d := some 24) (v := ?_) (by kernel_rfl) (by kernel_rfl) (by kernel_rfl) (by kernel_rfl) (fun _ _ _ h => h) ?_ hHeld ?_
        rotate_left
        · (intro o ho; simp only [List.getElem?_toArray, List.getElem?_cons_succ, List.getElem?_cons_zero, Option.some.injEq] at ho; subst ho; refine Or.inl ⟨by rfl, ?_⟩; intro w hSw; (try dsimp only at hSw); go_simp; try with_reducible rfl)
        try simp only [Act.put, List.setIfInBounds_toArray, List.set_cons_zero, List.set_cons_succ]
        refine call1 (i := 8) (d := some 25) (by kernel_rfl) (by kernel_rfl) ?_
        intro o ho hod K hK; simp only [List.getElem?_toArray, List.getElem?_cons_succ, List.getElem?_cons_zero, Option.some.injEq] at ho; subst ho
        go_simp
        refine (eqLeafC pa pa' pc pc' p fl r q v _ hpk (HS1.out.below hHeld.1) (HS2.out.below hHeld.1)).mono ?_
        rintro e w2 ⟨rfl, b2⟩
        have hB := keepS hHeld.1 b2
        refine hK.out _ _ ⟨hB, (hB.cell (p := ⟨b, _, none⟩) zb).trans x0, (hB.cell (p := ⟨b, _, none⟩) zb).trans x1, (hB.cell (p := ⟨b, _, none⟩) zb).trans x2, (hB.cell (p := ⟨b, _, none⟩) zb).trans x3, (hB.cell (p := ⟨b, _, none⟩) zb).trans x4, (hB.cell (p := ⟨b', _, none⟩) zb').trans y0, (hB.cell (p := ⟨b', _, none⟩) zb').trans y1, (hB.cell (p := ⟨b', _, none⟩) zb').trans y2, (hB.cell (p := ⟨b', _, none⟩) zb').trans y3, (hB.cell (p := ⟨b', _, none⟩) zb').trans y4⟩ (fun hHeld => ?_)
        clear hK K
        try simp only [Act.put, List.setIfInBounds_toArray, List.set_cons_zero, List.set_cons_succ]
        refine take1 (i := 9) (d := some 26) (v := ?_) (by kernel_rfl) (by kernel_rfl) (by kernel_rfl) (by kernel_rfl) (fun _ _ _ h => h) ?_ hHeld ?_
        rotate_left
        · (intro o ho; simp only [List.getElem?_toArray, List.getElem?_cons_succ, List.getElem?_cons_zero, Option.some.injEq] at ho; subst ho; refine Or.inl ⟨by rfl, ?_⟩; intro w hSw; (try dsimp only at hSw); go_simp; try with_reducible rfl)
        try simp only [Act.put, List.setIfInBounds_toArray, List.set_cons_zero, List.set_cons_succ]
        refine wpAnyH_done (by kernel_rfl) ?_ _
        have HZ := hid hB
        clear hHeld hB b2
        go_wp2_with fail
        go_roundw
        case rel => exact ⟨k + 1, hlt, by go_num, HB.out.trans (HZ.out.mono HB.out.size)⟩
        case measure => simp [intOf]; omega
      · obtain rfl : k = l.length := by omega
        have HB := hid hbel
        clear hc hc' hbel
        go_wp2_with fail
        go_ret
        exact ⟨rfl, HB.out⟩
set_option maxHeartbeats 400000 in
theorem eqStateC (a a' : Option Addr) (c c' : Nat) (l : List Lf) (x x' : Option Addr) (n d d' : Nat) (R F T : Nat → Int) (w : World) (hn : l.length ≤ 1048576) (hp : LBd l) (hm : n ≤ 1048576) (h : LSeg w a l) (h' : LSeg w a' l) (k : RSeg w x n R F T) (k' : RSeg w x' n R F T) :
    Calls Tryz.prog 25 #[.agg #[.slice a l.length c, .slice x n d], .agg #[.slice a' l.length c', .slice x' n d']] w fun e w' => e = .returned (.bool true) ∧ Below w.heap.size w w' := by
  obtain ⟨W, hW⟩ : ∃ W, (w.alloc (.cells #[.slice a l.length c, .slice x n d] 36)).alloc (.cells #[.slice a' l.length c', .slice x' n d'] 36) = W := ⟨_, rfl⟩
  have b0 : Below w.heap.size w W := by rw [← hW]; exact below2 _ _ _
  have zW : W.heap.size = w.heap.size + 2 := by rw [← hW]; simp
  have k0 : W.cell? ⟨w.heap.size, 0, none⟩ = some (.slice a l.length c) := by rw [← hW]; simp
  have k1 : W.cell? ⟨w.heap.size, 1, none⟩ = some (.slice x n d) := by rw [← hW]; simp
  have l0 : W.cell? ⟨w.heap.size + 1, 0, none⟩ = some (.slice a' l.length c') := by rw [← hW]; simp
  have l1 : W.cell? ⟨w.heap.size + 1, 1, none⟩ = some (.slice x' n d') := by rw [← hW]; simp
  have HL := hid (eqLeaves a a' c c' l W hn hp (h.below b0) (h'.below b0))
  have HK : Hid (∀ w1, Below W.heap.size W w1 → Calls Tryz.prog 50 #[.agg #[.slice x n d], .agg #[.slice x' n d']] w1 fun e w' => e = .returned (.bool true) ∧ Below w1.heap.size w1 w') := hid (fun w1 hb => eqContext x x' n d d' R F T w1 hm ((k.below b0).below hb) ((k'.below b0).below hb))
  have HB0 := hid b0
  have HZ := hid zW
  clear h h' k k' b0 zW
  go_enter Tryz.func25, Tryz.ntmps25
  go_wp2_with fail
  try rw [hW]
  clear hW
  refine HL.out.mono ?_
  rintro e w1 ⟨rfl, b1⟩
  have m1 := (b1.cell (p := ⟨w.heap.size, 1, none⟩) (show w.heap.size < W.heap.size by have := HZ.out; omega)).trans k1
  have n1 := (b1.cell (p := ⟨w.heap.size + 1, 1, none⟩) (show w.heap.size + 1 < W.heap.size by have := HZ.out; omega)).trans l1
  have HB1 := hid b1
  clear b1 k0 k1 l0 l1 HL
  go_wp2_with fail
  refine (HK.out w1 HB1.out).mono ?_
  rintro e w2 ⟨rfl, b2⟩
  have HB2 := hid (keepS HB0.out (keepS HB1.out b2))
  clear b2 m1 n1 HK
  go_wp2_with fail
  go_ret
  exact ⟨rfl, HB2.out⟩
end Go.Proofs.YtdenbicnckkdfaaGreat

namespace Go.Proofs.YtdenbicnckkdfaaGreat
open Go.ChangeShapes Go.WideShapes Go.ChangeAt Go.RowKit
set_option linter.unusedVariables false
set_option linter.unusedSimpArgs false

def PBig (p : List ByteArray) : Prop := p.length ≤ 9223372036854775807 ∧ ∀ i, (gS p i).size ≤ 9223372036854775807
def PSm (p : List ByteArray) : Prop := p.length ≤ 1048576 ∧ ∀ i, (gS p i).size ≤ 1048576
def LfBig (x : Lf) : Prop := PBig x.p ∧ x.v.size ≤ 9223372036854775807
def LfSm (x : Lf) : Prop := PSm x.p ∧ x.v.size ≤ 1048576
theorem gS_far {p : List ByteArray} {i : Nat} (h : p.length ≤ i) : gS p i = ByteArray.empty := by simp [gS, List.getD, List.getElem?_eq_none h]

set_option maxRecDepth 100000 in
set_option maxHeartbeats 1000000 in
theorem szStrings (a : Option Addr) (c : Nat) (p : List ByteArray) (k : Int) (w : World) (hk0 : 0 ≤ k) (hk1 : k ≤ 1048576) (hb : PBig p) (h : SSeg w a p) :
    Calls Tryz.prog 89 #[.slice a p.length c, .int .i64 k] w fun e w' => (∃ k', e = .returned (.int .i64 k') ∧ -1 ≤ k' ∧ k' ≤ k ∧ (0 ≤ k' → PSm p)) ∧ w' = w := by
  obtain ⟨hb1, hb2⟩ := hb
  by_cases hlen : k < (p.length : Int)
  · obtain ⟨k1, hk⟩ : ∃ k1, k - (p.length : Int) = k1 := ⟨_, rfl⟩
    have w1 : IntKind.i64.wrap k1 = k1 := by rw [IntKind.wrap_i64]; omega
    have w2 : IntKind.i64.wrap (k - (p.length : Int)) = k1 := by rw [IntKind.wrap_i64]; omega
    have d0 : decide (k1 < 0) = true := by simp; omega
    clear h hb2
    go_enter Tryz.func89, Tryz.ntmps89
    go_wp2_with fail
    go_ret
    exact ⟨⟨-1, rfl, by omega, by omega, fun h => by omega⟩, rfl⟩
  · obtain ⟨k1, hk⟩ : ∃ k1, k - (p.length : Int) = k1 := ⟨_, rfl⟩
    have w1 : IntKind.i64.wrap k1 = k1 := by rw [IntKind.wrap_i64]; omega
    have w2 : IntKind.i64.wrap (k - (p.length : Int)) = k1 := by rw [IntKind.wrap_i64]; omega
    have d0 : decide (k1 < 0) = false := by simp; omega
    have hpl : p.length ≤ 1048576 := by omega
    go_enter Tryz.func89, Tryz.ntmps89
    go_wp2_with fail
    have hk1' : 0 ≤ k1 ∧ k1 ≤ k := by omega
    clear hk w1 w2 d0 hlen
    go_loop [1, 5] (fun kv iv => ∃ (j : Nat) (kk : Int), j ≤ p.length ∧ iv = .int .i64 (j : Int) ∧ kv = .int .i64 kk ∧ 0 ≤ kk ∧ kk ≤ k ∧ Hid (∀ i, i < j → (gS p i).size ≤ 1048576)) (fun _ iv => p.length - (intOf iv).toNat)
    case atStart => exact ⟨0, k1, Nat.zero_le _, rfl, rfl, hk1'.1, hk1'.2, hid (fun i hi => by omega)⟩
    case round =>
      obtain ⟨j, kk, hj, rfl, rfl, hkk0, hkk1, hsm⟩ := hrel
      by_cases hlt : j < p.length
      · rcases h with h | ⟨b, off, rfl, hbl, hc⟩
        · omega
        have x0 := hc j hlt
        have hsz := hb2 j
        obtain ⟨s, hs⟩ : ∃ s, gS p j = s := ⟨_, rfl⟩
        rw [hs] at x0 hsz
        have i1 : (0 : Int) ≤ (j : Int) := Int.natCast_nonneg _
        have i2 : (j : Int) < (p.length : Int) := by omega
        have HS := hid hs
        obtain ⟨k2, hk2⟩ : ∃ k2, kk - (s.size : Int) = k2 := ⟨_, rfl⟩
        have w1 : IntKind.i64.wrap k2 = k2 := by rw [IntKind.wrap_i64]; omega
        have w2 : IntKind.i64.wrap (kk - (s.size : Int)) = k2 := by rw [IntKind.wrap_i64]; omega
        clear hc hs
        by_cases hneg : k2 < 0
        · have d0 : decide (k2 < 0) = true := by simpa using hneg
          go_wp2_with fail
          go_ret
          exact ⟨⟨-1, rfl, by omega, by omega, fun h => by omega⟩, rfl⟩
        · have d0 : decide (k2 < 0) = false := by simpa using hneg
          have HN : Hid (∀ i, i < j + 1 → (gS p i).size ≤ 1048576) := hid (fun i hi => by
            by_cases e : i = j
            · rw [e, HS.out]; omega
            · exact hsm.out i (by omega))
          go_wp2_with fail
          go_round
          case rel => exact ⟨j + 1, k2, hlt, by go_num, rfl, by omega, by omega, HN⟩
          case measure => simp [intOf]; omega
      · obtain rfl : j = p.length := by omega
        have HP : Hid (PSm p) := hid ⟨hpl, fun i => by
          by_cases hi : i < p.length
          · exact hsm.out i hi
          · rw [gS_far (by omega)]; simp⟩
        clear h
        go_wp2_with fail
        go_ret
        exact ⟨⟨kk, rfl, by omega, hkk1, fun _ => HP.out⟩, rfl⟩

set_option maxRecDepth 100000 in
set_option maxHeartbeats 1000000 in
theorem szLeafC (a : Option Addr) (c : Nat) (x : Lf) (k : Int) (w : World) (hk0 : 0 ≤ k) (hk1 : k ≤ 1048576) (hb : LfBig x) (h : SSeg w a x.p) :
    Calls Tryz.prog 55 #[.agg #[.slice a x.p.length c, .bool x.fl, .int .i64 x.r, .int .i64 x.q, .string x.v], .int .i64 k] w fun e w' => (∃ k', e = .returned (.int .i64 k') ∧ -1 ≤ k' ∧ k' ≤ k ∧ (0 ≤ k' → LfSm x)) ∧ Below w.heap.size w w' := by
  obtain ⟨p, fl, r, q, v⟩ := x
  obtain ⟨hb1, hb2⟩ := hb
  dsimp only at hb1 hb2 h ⊢
  obtain ⟨W, hW⟩ : ∃ W, w.alloc (.cells #[.slice a p.length c, .bool fl, .int .i64 r, .int .i64 q, .string v] 97) = W := ⟨_, rfl⟩
  have b0 : Below w.heap.size w W := by rw [← hW]; exact (Below.refl _ _).alloc (Nat.le_refl _) _
  have k0 : W.cell? ⟨w.heap.size, 0, none⟩ = some (.slice a p.length c) := by rw [← hW]; simp
  have k4 : W.cell? ⟨w.heap.size, 4, none⟩ = some (.string v) := by rw [← hW]; simp
  have HS := hid (szStrings a c p k W hk0 hk1 hb1 (h.below b0))
  have HB0 := hid b0
  clear h b0 hb1
  go_enter Tryz.func55, Tryz.ntmps55
  go_wp2_with fail
  try rw [hW]
  clear hW
  refine HS.out.mono ?_
  rintro e w1 ⟨⟨k', rfl, hk'0, hk'1, hps⟩, rfl⟩
  have HPS := hid hps
  clear hps HS
  by_cases hneg : k' < 0
  · have d0 : decide (k' < 0) = true := by simpa using hneg
    go_wp2_with fail
    go_ret
    exact ⟨⟨-1, rfl, by omega, by omega, fun h => by omega⟩, HB0.out⟩
  · have d0 : decide (k' < 0) = false := by simpa using hneg
    obtain ⟨k2, hk2⟩ : ∃ k2, k' - (v.size : Int) = k2 := ⟨_, rfl⟩
    have w1 : IntKind.i64.wrap k2 = k2 := by rw [IntKind.wrap_i64]; omega
    have w2 : IntKind.i64.wrap (k' - (v.size : Int)) = k2 := by rw [IntKind.wrap_i64]; omega
    by_cases hneg2 : k2 < 0
    · have d1 : decide (k2 < 0) = true := by simpa using hneg2
      go_wp2_with fail
      go_ret
      exact ⟨⟨-1, rfl, by omega, by omega, fun h => by omega⟩, HB0.out⟩
    · have d1 : decide (k2 < 0) = false := by simpa using hneg2
      go_wp2_with fail
      go_ret
      exact ⟨⟨k2, rfl, by omega, by omega, fun _ => ⟨HPS.out (by omega), by show v.size ≤ 1048576; omega⟩⟩, HB0.out⟩

set_option maxRecDepth 100000 in
set_option maxHeartbeats 1000000 in
theorem szLeaves (a : Option Addr) (c : Nat) (l : List Lf) (k : Int) (w : World) (hk0 : 0 ≤ k) (hk1 : k ≤ 1048576) (hn : l.length ≤ 9223372036854775807) (hb : ∀ i, LfBig (gL l i)) (h : LSeg w a l) :
    Calls Tryz.prog 31 #[.slice a l.length c, .int .i64 k] w fun e w' => (∃ k', e = .returned (.int .i64 k') ∧ -1 ≤ k' ∧ k' ≤ k ∧ (0 ≤ k' → l.length ≤ 1048576 ∧ ∀ i, LfSm (gL l i))) ∧ Below w.heap.size w w' := by
  obtain ⟨k1, hk⟩ : ∃ k1, k - (l.length : Int) = k1 := ⟨_, rfl⟩
  have w1 : IntKind.i64.wrap k1 = k1 := by rw [IntKind.wrap_i64]; omega
  have w2 : IntKind.i64.wrap (k - (l.length : Int)) = k1 := by rw [IntKind.wrap_i64]; omega
  by_cases hneg : k1 < 0
  · have d0 : decide (k1 < 0) = true := by simpa using hneg
    clear h hb
    go_enter Tryz.func31, Tryz.ntmps31
    go_wp2_with fail
    go_ret
    exact ⟨⟨-1, rfl, by omega, by omega, fun h => by omega⟩, Below.refl _ _⟩
  · have d0 : decide (k1 < 0) = false := by simpa using hneg
    have hpl : l.length ≤ 1048576 := by omega
    go_enter Tryz.func31, Tryz.ntmps31
    go_wp2_with fail
    have hk1' : 0 ≤ k1 ∧ k1 ≤ k := by omega
    clear hk w1 w2 d0 hneg
    go_loopw [1, 5] (fun kv iv wr => ∃ (j : Nat) (kk : Int), j ≤ l.length ∧ iv = .int .i64 (j : Int) ∧ kv = .int .i64 kk ∧ 0 ≤ kk ∧ kk ≤ k ∧ Hid (∀ i, i < j → LfSm (gL l i)) ∧ Hid (Below w.heap.size w wr)) (fun _ iv _ => l.length - (intOf iv).toNat)
    case atStart => exact ⟨0, k1, Nat.zero_le _, rfl, rfl, hk1'.1, hk1'.2, hid (fun i hi => by omega), hid (Below.refl _ _)⟩
    case round =>
      obtain ⟨j, kk, hj, rfl, rfl, hkk0, hkk1, hsm, hbel⟩ := hrel
      by_cases hlt : j < l.length
      · rcases h with h | ⟨b, off, rfl, hbl, hc⟩
        · omega
        obtain ⟨pa, pc, c0, s, c1, c2, c3, c4⟩ := hc j hlt
        have x0 := (hbel.out.cell (p := ⟨b, off + j * 5, none⟩) hbl).trans c0
        have x1 := (hbel.out.cell (p := ⟨b, off + j * 5 + 1, none⟩) hbl).trans c1
        have x2 := (hbel.out.cell (p := ⟨b, off + j * 5 + 2, none⟩) hbl).trans c2
        have x3 := (hbel.out.cell (p := ⟨b, off + j * 5 + 3, none⟩) hbl).trans c3
        have x4 := (hbel.out.cell (p := ⟨b, off + j * 5 + 4, none⟩) hbl).trans c4
        have HSZ := hid (szLeafC pa pc (gL l j) kk wr hkk0 (by omega) (hb j) (s.below hbel.out))
        have i1 : (0 : Int) ≤ (j : Int) := Int.natCast_nonneg _
        have i2 : (j : Int) < (l.length : Int) := by omega
        clear hc c0 s c1 c2 c3 c4
        go_wp2_with fail
        refine HSZ.out.mono ?_
        rintro e w3 ⟨⟨k', rfl, hk'0, hk'1, hps⟩, b3⟩
        have HPS := hid hps
        have HB3 := hid (hbel.out.trans (b3.mono hbel.out.size))
        clear hps HSZ b3 x0 x1 x2 x3 x4
        by_cases hneg : k' < 0
        · have d0 : decide (k' < 0) = true := by simpa using hneg
          go_wp2_with fail
          go_ret
          exact ⟨⟨-1, rfl, by omega, by omega, fun h => by omega⟩, HB3.out⟩
        · have d0 : decide (k' < 0) = false := by simpa using hneg
          have HN : Hid (∀ i, i < j + 1 → LfSm (gL l i)) := hid (fun i hi => by
            by_cases e : i = j
            · rw [e]; exact HPS.out (by omega)
            · exact hsm.out i (by omega))
          go_wp2_with fail
          go_roundw
          case rel => exact ⟨j + 1, k', hlt, by go_num, rfl, by omega, by omega, HN, HB3⟩
          case measure => simp [intOf]; omega
      · obtain rfl : j = l.length := by omega
        have HP : Hid (l.length ≤ 1048576 ∧ ∀ i, LfSm (gL l i)) := hid ⟨hpl, fun i => by
          by_cases hi : i < l.length
          · exact hsm.out i hi
          · have e : gL l i = ⟨[], false, 0, 0, ByteArray.empty⟩ := by simp [gL, List.getD, List.getElem?_eq_none (show l.length ≤ i by omega)]
            rw [e]; exact ⟨⟨by simp, fun i => by rw [gS_far (by simp)]; simp⟩, by simp⟩⟩
        clear h
        go_wp2_with fail
        go_ret
        exact ⟨⟨kk, rfl, by omega, hkk1, fun _ => HP.out⟩, hbel.out⟩
end Go.Proofs.YtdenbicnckkdfaaGreat
