import Derived.Test.YthkppnmnjboiaaaDoorFb
namespace Go.Proofs.YthkppnmnjboiaaaDoor
open Go.ChangeShapes Go.WideShapes Go.ChangeAt Go.RowKit
set_option linter.unusedVariables false
set_option linter.unusedSimpArgs false
variable {W0 wr w' : World} {cb N p c : Nat} {F : Nat → Int} {R : Nat × Nat × List (Int × List Int)} {a : Option Addr} {fv : Value} {l : List Fx}

theorem DcI.go (h : DcI W0 wr cb F N R p a c fv l) {w0 w9 : World} {z : Nat} {kd : Int} {pv v9 u1 : Value} {pl : List Int} (b0 : Below wr.heap.size wr w0) (ov : Own w0 wr.heap.size pv pl) (gg : w0.grownBy w9 fv.ownBlock)
    (hown : w9.ownsRow (cb + 1) 41 2 v9 (l.length + 1) (fxCells l ++ [.int .i64 kd, pv])) (hloc : v9.ownBlock = fv.ownBlock ∨ ∃ k, v9.ownBlock = some k ∧ w0.heap.size ≤ k)
    (h1 : wr.cell? ⟨cb, 1, none⟩ = some u1) (hgo : feedF F N p = ((feedF F N z).1, (feedF F N z).2.1, (kd, pl) :: (feedF F N z).2.2)) (hz : p < z) (hzN : z ≤ N) :
    DcI W0 (((w9.setCell ⟨cb, 6, none⟩ v9).setCell ⟨cb, 1, none⟩ (.int .i64 (z : Int))).setCell ⟨cb, 2, none⟩ (.int .i64 (z : Int))) cb F N R z a c v9 (l ++ [(kd, pv, pl)])
      ∧ (((w9.setCell ⟨cb, 6, none⟩ v9).setCell ⟨cb, 1, none⟩ (.int .i64 (z : Int))).setCell ⟨cb, 2, none⟩ (.int .i64 (z : Int))).cell? ⟨cb, 1, none⟩ = some (.int .i64 (z : Int)) := by
  have hlt := h.lt
  have hfv : ∀ k, fv.ownBlock = some k → cb + 1 ≤ k := fun k hk => (World.ownsRow.lt h.fr.row k hk).1
  have fr9 := h.fr.step (Nat.succ_le_of_lt hlt) b0 ov gg hown hloc
  have hne : some cb ≠ fv.ownBlock := fun e => by have := hfv cb e.symm; omega
  have cc : ∀ i, w9.cell? ⟨cb, i, none⟩ = wr.cell? ⟨cb, i, none⟩ := fun i => (World.cell?_of_block (a := ⟨cb, i, none⟩) (gg.block cb (Nat.lt_of_lt_of_le hlt b0.size) hne)).trans (b0.cell (p := ⟨cb, i, none⟩) hlt)
  have ff : ∀ i, w9.frozen? ⟨cb, i, none⟩ = wr.frozen? ⟨cb, i, none⟩ := fun i => (World.frozen?_of_block (a := ⟨cb, i, none⟩) (gg.block cb (Nat.lt_of_lt_of_le hlt b0.size) hne)).trans (b0.frozen (p := ⟨cb, i, none⟩) hlt)
  have bel9 : Below cb W0 w9 := (h.bel.trans (b0.mono (Nat.le_of_lt hlt))).grown gg (Nat.le_of_lt (Nat.lt_of_lt_of_le hlt b0.size)) (fun k hk => by have := hfv k hk; omega)
  obtain ⟨u3, k3⟩ := h.c3
  obtain ⟨u4, k4⟩ := h.c4
  have g1 := grown_set1 w9 cb 6 v9
  have g2 := grown_set1 (w9.setCell ⟨cb, 6, none⟩ v9) cb 1 (.int .i64 (z : Int))
  have g3 := grown_set1 ((w9.setCell ⟨cb, 6, none⟩ v9).setCell ⟨cb, 1, none⟩ (.int .i64 (z : Int))) cb 2 (.int .i64 (z : Int))
  have G := grown_trans (grown_trans g1 g2) g3
  have sz9 : w9.heap.size ≤ _ := G.size
  have hlt9 : cb < w9.heap.size := Nat.lt_of_lt_of_le hlt (Nat.le_trans b0.size gg.size)
  have c6 : (w9.setCell ⟨cb, 6, none⟩ v9).cell? ⟨cb, 6, none⟩ = some v9 := World.cell?_setCell_same _ _ _ ((cc 6).trans h.c6)
  have c1 : ((w9.setCell ⟨cb, 6, none⟩ v9).setCell ⟨cb, 1, none⟩ (.int .i64 (z : Int))).cell? ⟨cb, 1, none⟩ = some (.int .i64 (z : Int)) := World.cell?_setCell_same _ _ _ ((cell_set_ne (by omega)).trans ((cc 1).trans h1))
  have t1 := h.t1
  have t2 := h.t2
  have t3 := h.t3
  rw [hgo] at t1 t2 t3
  have kp : ∀ i, i ≠ 6 → i ≠ 1 → i ≠ 2 → (((w9.setCell ⟨cb, 6, none⟩ v9).setCell ⟨cb, 1, none⟩ (.int .i64 (z : Int))).setCell ⟨cb, 2, none⟩ (.int .i64 (z : Int))).cell? ⟨cb, i, none⟩ = wr.cell? ⟨cb, i, none⟩ := fun i h6 h1 h2 =>
    (cell_set_ne h2).trans ((cell_set_ne h1).trans ((cell_set_ne h6).trans (cc i)))
  refine ⟨⟨bel9.grown G (Nat.le_of_lt hlt9) (fun k e => by injection e with e; omega), Nat.lt_of_lt_of_le hlt9 G.size, (kp 0 (by omega) (by omega) (by omega)).trans h.c0, World.cell?_setCell_same _ _ _ ((cell_set_ne (by omega)).trans ((cell_set_ne (by omega)).trans ((cc 2).trans h.c2))), ⟨u3, (kp 3 (by omega) (by omega) (by omega)).trans k3⟩, ⟨u4, (kp 4 (by omega) (by omega) (by omega)).trans k4⟩, (kp 5 (by omega) (by omega) (by omega)).trans h.c5, (cell_set_ne (by omega)).trans ((cell_set_ne (by omega)).trans c6), fun i => ?_, hzN, fr9.kept G (fun k e => by injection e with e; omega), t1, t2, ?_, ?_⟩, (cell_set_ne (by omega)).trans c1⟩
  · rw [World.frozen?_setCell, World.frozen?_setCell, World.frozen?_setCell]; exact (ff i).trans (h.zz i)
  · rw [List.map_append, List.append_assoc]; exact t3
  · rw [List.length_append]; have := h.ll; show l.length + 1 ≤ z; omega

def NxF (W0 w' : World) (cb : Nat) (F : Nat → Int) (N : Nat) (R : Nat × Nat × List (Int × List Int)) (p : Nat) (a : Option Addr) (c : Nat) : Prop := ∃ (z : Nat) (fv' : Value) (l' : List Fx), p < z ∧ DcI W0 w' cb F N R z a c fv' l' ∧ w'.cell? ⟨cb, 1, none⟩ = some (.int .i64 (z : Int))
theorem row_form9 {w : World} {B : Nat} {e : TypeId} {size : Nat} {v : Value} {n : Nat} {xs : List Value} (h : w.ownsRow B e size v n xs) : ∃ y m c, v = .slice y m c := by
  rcases h.2 with ⟨rfl, _⟩ | ⟨g, cap, cur, rfl, _⟩
  · exact ⟨_, _, _, rfl⟩
  · exact ⟨_, _, _, rfl⟩
theorem sum_iff {F : Nat → Int} {y : Nat} {V : Int} : (∀ i, i < 4 → gz (sum4 V) i = F (y + i)) ↔ sumOk F y V := by
  constructor
  · intro h
    exact ⟨(h 0 (by omega)).symm, (h 1 (by omega)).symm, (h 2 (by omega)).symm, (h 3 (by omega)).symm⟩
  · rintro ⟨h0, h1, h2, h3⟩ i hi
    rcases (show i = 0 ∨ i = 1 ∨ i = 2 ∨ i = 3 by omega) with e | e | e | e <;> subst e
    · exact h0.symm
    · exact h1.symm
    · exact h2.symm
    · exact h3.symm
theorem sumOk_sh {F : Nat → Int} {p k : Nat} {V : Int} : sumOk (shF F p) k V ↔ sumOk F (p + k) V := by
  unfold sumOk shF
  simp only [Nat.add_assoc]

set_option maxRecDepth 100000 in
set_option maxHeartbeats 2000000 in
theorem rdRestC (at' ln : Nat) (hn : N ≤ 4194304) (hF : Byt F) (hI : DcI W0 wr cb F N R p a c fv l) (hh : headF (shF F p) (N - p) = (0, at', ln)) (ha : at' ≠ 0) (h1 : wr.cell? ⟨cb, 1, none⟩ = some (.int .i64 ((p + at' : Nat) : Int))) (h3 : wr.cell? ⟨cb, 3, none⟩ = some (.int .i64 (F (p + 2)))) (h4 : wr.cell? ⟨cb, 4, none⟩ = some (.int .i64 (ln : Int))) (hB : Bts W0 cb a N F) (hc1 : N ≤ c) (hc2 : c ≤ 9223372036854775807) :
    Calls Tryd.prog 40 #[.pointer (some ⟨cb, 0, none⟩)] wr fun e w' => (e = .returned .nilFunc ∧ DcE W0 w' cb N R a c fv l) ∨
      (e = .returned (.func (.func 17) #[] #[]) ∧ NxF W0 w' cb F N R p a c) := by
  obtain ⟨n3, e0, e1, k1, k3, hl4, hat, hatE, _⟩ := headF_ok (shF_byt hF p) hh ha
  have hle := hI.le
  rcases hB with hB | ⟨b, rfl, hb, hc⟩
  · omega
  have HI := hid hI
  have HH := hid hh
  have hFi : ∀ x, firstF (shF F p) (N - p) = x ↔ (if at' = 0 ∨ N - p < at' + ln + 4 then (0, 0) else if sumOk (shF F p) (at' + ln) (sumX (shF F p) (at' + ln)) then (0, at' + ln + 4) else (5, 0)) = x := fun x => by
    unfold firstF; rw [hh]; simp only [ne_eq, not_true_eq_false, ↓reduceIte]
  have HFi := hid hFi
  have q0 := hI.c0
  have q2 := hI.c2
  have hlt := hI.lt
  have HC : Hid (∀ w' : World, (∀ i, w'.cell? ⟨b, i, none⟩ = wr.cell? ⟨b, i, none⟩) → ∀ i, i < N → w'.cell? ⟨b, i, none⟩ = some (.int .u8 (F i))) := hid (fun w' hk i hi => (hk i).trans ((hI.bel.cell (p := ⟨b, i, none⟩) hb).trans (hc i hi)))
  clear hI hh hFi hc e0 e1 k1 k3 hatE
  obtain ⟨x, hx⟩ : ∃ x, p + at' = x := ⟨_, rfl⟩
  obtain ⟨y, hy⟩ : ∃ y, x + ln = y := ⟨_, rfl⟩
  obtain ⟨z, hz⟩ : ∃ z, y + 4 = z := ⟨_, rfl⟩
  rw [hx] at h1
  have wxy : IntKind.i64.wrap ((x : Int) + (ln : Int)) = (y : Int) := by rw [IntKind.wrap_i64]; omega
  have wyz : IntKind.i64.wrap ((y : Int) + 4) = (z : Int) := by rw [IntKind.wrap_i64]; omega
  by_cases hN : N < z
  · have HS := hid ((HFi.out (0, 0)).2 (by rw [if_pos (.inr (by omega))]))
    have HE := hid (HI.out.stop HS.out)
    have hd : decide ((N : Int) < (z : Int)) = true := by simp; omega
    have HX := hid (And.intro hx (And.intro hy hz))
    clear hx hy hz
    go_enter Tryd.func40, Tryd.ntmps40
    go_wp2_with fail
    go_quiet (fail)
    have q0' : (wr.drewN nq).cell? ⟨cb, 0, none⟩ = some (.slice (some ⟨b, 0, none⟩) N c) := q0
    go_wp2_with fail
    go_ret
    refine .inl ⟨rfl, ?_⟩
    have E := HE.out
    exact ⟨below_drewN E.bel _, E.lt, E.c0, E.c2, E.c5, E.c6, E.fr.kept (grown_drewN _ _ none) (by simp), E.t3, E.le, E.ll⟩
  · have hd : decide ((N : Int) < (z : Int)) = false := by simp; omega
    obtain ⟨V, hV⟩ : ∃ V, sumX (shF F p) (at' + ln) = V := ⟨_, rfl⟩
    have hVb : 0 ≤ V ∧ V < 4294967296 := by rw [← hV]; exact crc_u32 (shF_byt hF p) (at' + ln)
    have HCR : Hid (∀ (w' : World) (cap : Nat), (∀ i, w'.cell? ⟨b, i, none⟩ = wr.cell? ⟨b, i, none⟩) → b < w'.heap.size → Calls Tryd.prog 45 #[.slice (some ⟨b, p, none⟩) (y - p) cap] w' fun e w'' => e = .returned (.int .u32 V) ∧ w'' = w') := hid (fun w' cap hk hs => by
      rw [← hV, show y - p = at' + ln by omega]
      exact implCrc _ _ _ _ _ (by omega) (shF_byt hF p) (.inr ⟨b, p, rfl, hs, fun i hi => HC.out w' hk (p + i) (by omega)⟩))
    have hpc : ¬ c = p := by omega
    have hyc : ¬ c = y := by omega
    have hxc : ¬ c = x := by omega
    have hzy : z - y = 4 := by omega
    have hyx : y - x = ln := by omega
    have i0 : (0 : Int) ≤ (p : Int) := Int.natCast_nonneg _
    have i1 : (p : Int) ≤ (y : Int) := by omega
    have i2 : (y : Int) ≤ (c : Int) := by omega
    have i3 : (0 : Int) ≤ (y : Int) := by omega
    have i4 : (y : Int) ≤ (z : Int) := by omega
    have i5 : (z : Int) ≤ (c : Int) := by omega
    have i6 : (0 : Int) ≤ (x : Int) := by omega
    have i7 : (x : Int) ≤ (y : Int) := by omega
    have HX := hid (And.intro hx (And.intro hy hz))
    have HV := hid hV
    clear hx hy hz hV
    go_enter Tryd.func40, Tryd.ntmps40
    go_wp2_with fail
    go_quiet (fail)
    have q0' : (wr.drewN nq).cell? ⟨cb, 0, none⟩ = some (.slice (some ⟨b, 0, none⟩) N c) := q0
    have q2' : (wr.drewN nq).cell? ⟨cb, 2, none⟩ = some (.int .i64 (p : Int)) := q2
    go_wp2_with fail
    refine wp_region_held_drew (S := fun w' => w'.cell? ⟨cb, 0, none⟩ = some (.slice (some ⟨b, 0, none⟩) N c) ∧ w'.cell? ⟨cb, 2, none⟩ = some (.int .i64 (p : Int))) (by kernel_rfl) ⟨q0', q2'⟩ (fun hHeld => ?_)
    refine take1 (i := 0) (d := some 26) (v := ?_) (by kernel_rfl) (by kernel_rfl) (by kernel_rfl) (by kernel_rfl) (fun _ _ _ h => h) ?_ hHeld ?_
    rotate_left
    · (intro o ho; simp only [List.getElem?_toArray, List.getElem?_cons_succ, List.getElem?_cons_zero, Option.some.injEq] at ho; subst ho; refine Or.inl ⟨by rfl, ?_⟩; intro w hSw; (try dsimp only at hSw); go_simp; try with_reducible rfl)
    try simp only [Act.put, List.setIfInBounds_toArray, List.set_cons_zero, List.set_cons_succ]
    refine take1 (i := 1) (d := some 27) (v := ?_) (by kernel_rfl) (by kernel_rfl) (by kernel_rfl) (by kernel_rfl) (fun _ _ _ h => h) ?_ hHeld ?_
    rotate_left
    · (intro o ho; simp only [List.getElem?_toArray, List.getElem?_cons_succ, List.getElem?_cons_zero, Option.some.injEq] at ho; subst ho; refine Or.inl ⟨by rfl, ?_⟩; intro w hSw; (try dsimp only at hSw); go_simp; try with_reducible rfl)
    try simp only [Act.put, List.setIfInBounds_toArray, List.set_cons_zero, List.set_cons_succ]
    refine take1 (i := 2) (d := some 28) (v := ?_) (by kernel_rfl) (by kernel_rfl) (by kernel_rfl) (by kernel_rfl) (fun _ _ _ h => h) ?_ hHeld ?_
    rotate_left
    · (intro o ho; simp only [List.getElem?_toArray, List.getElem?_cons_succ, List.getElem?_cons_zero, Option.some.injEq] at ho; subst ho; refine Or.inl ⟨by rfl, ?_⟩; intro w hSw; (try dsimp only at hSw); go_simp; try with_reducible rfl)
    try simp only [Act.put, List.setIfInBounds_toArray, List.set_cons_zero, List.set_cons_succ]
    refine take1 (i := 3) (d := some 29) (v := ?_) (by kernel_rfl) (by kernel_rfl) (by kernel_rfl) (by kernel_rfl) (fun _ _ _ h => h) ?_ hHeld ?_
    rotate_left
    · (intro o ho; simp only [List.getElem?_toArray, List.getElem?_cons_succ, List.getElem?_cons_zero, Option.some.injEq] at ho; subst ho; refine Or.inl ⟨by rfl, ?_⟩; intro w hSw; (try dsimp only at hSw); go_simp; try with_reducible rfl)
    try simp only [Act.put, List.setIfInBounds_toArray, List.set_cons_zero, List.set_cons_succ]
    refine take1 (i := 4) (d := some 30) (v := ?_) (by kernel_rfl) (by kernel_rfl) (by kernel_rfl) (by kernel_rfl) (fun _ _ _ h => h) ?_ hHeld ?_
    rotate_left
    · (intro o ho; simp only [List.getElem?_toArray, List.getElem?_cons_succ, List.getElem?_cons_zero, Option.some.injEq] at ho; subst ho; refine Or.inl ⟨by rfl, ?_⟩; intro w hSw; (try dsimp only at hSw); go_simp; try with_reducible rfl)
    try simp only [Act.put, List.setIfInBounds_toArray, List.set_cons_zero, List.set_cons_succ]
    refine take1 (i := 5) (d := some 31) (v := ?_) (by kernel_rfl) (by kernel_rfl) (by kernel_rfl) (by kernel_rfl) (fun _ _ _ h => h) ?_ hHeld ?_
    rotate_left
    · (intro o ho; simp only [List.getElem?_toArray, List.getElem?_cons_succ, List.getElem?_cons_zero, Option.some.injEq] at ho; subst ho; refine Or.inl ⟨by rfl, ?_⟩; intro w hSw; (try dsimp only at hSw); go_simp; try with_reducible rfl)
    try simp only [Act.put, List.setIfInBounds_toArray, List.set_cons_zero, List.set_cons_succ]
    refine take1 (i := 6) (d := some 32) (v := ?_) (by kernel_rfl) (by kernel_rfl) (by kernel_rfl) (by kernel_rfl) (fun _ _ _ h => h) ?_ hHeld ?_
    rotate_left
    · (intro o ho; simp only [List.getElem?_toArray, List.getElem?_cons_succ, List.getElem?_cons_zero, Option.some.injEq] at ho; subst ho; refine Or.inl ⟨by rfl, ?_⟩; intro w hSw; (try dsimp only at hSw); go_simp; try with_reducible rfl)
    try simp only [Act.put, List.setIfInBounds_toArray, List.set_cons_zero, List.set_cons_succ]
    refine take1 (i := 7) (d := some 33) (v := ?_) (by kernel_rfl) (by kernel_rfl) (by kernel_rfl) (by kernel_rfl) (fun _ _ _ h => h) ?_ hHeld ?_
    rotate_left
    · (intro o ho; simp only [List.getElem?_toArray, List.getElem?_cons_succ, List.getElem?_cons_zero, Option.some.injEq] at ho; subst ho; refine Or.inl ⟨by rfl, ?_⟩; intro w hSw; (try dsimp only at hSw); go_simp; try with_reducible rfl)
    try simp only [Act.put, List.setIfInBounds_toArray, List.set_cons_zero, List.set_cons_succ]
    refine take1 (i := 8) (d := some 34) (v := ?_) (by kernel_rfl) (by kernel_rfl) (by kernel_rfl) (by kernel_rfl) (fun _ _ _ h => h) ?_ hHeld ?_
    rotate_left
    · (intro o ho; simp only [List.getElem?_toArray, List.getElem?_cons_succ, List.getElem?_cons_zero, Option.some.injEq] at ho; subst ho; refine Or.inl ⟨by rfl, ?_⟩; intro w hSw; (try dsimp only at hSw); go_simp; try with_reducible rfl)
    try simp only [Act.put, List.setIfInBounds_toArray, List.set_cons_zero, List.set_cons_succ]
    refine take1 (i := 9) (d := some 35) (v := ?_) (by kernel_rfl) (by kernel_rfl) (by kernel_rfl) (by kernel_rfl) (fun _ _ _ h => h) ?_ hHeld ?_
    rotate_left
    · (intro o ho; simp only [List.getElem?_toArray, List.getElem?_cons_succ, List.getElem?_cons_zero, Option.some.injEq] at ho; subst ho; refine Or.inl ⟨by rfl, ?_⟩; intro w hSw; (try dsimp only at hSw); go_simp; try with_reducible rfl)
    try simp only [Act.put, List.setIfInBounds_toArray, List.set_cons_zero, List.set_cons_succ]
    refine take1 (i := 10) (d := some 36) (v := ?_) (by kernel_rfl) (by kernel_rfl) (by kernel_rfl) (by kernel_rfl) (fun _ _ _ h => h) ?_ hHeld ?_
    rotate_left
    · (intro o ho; simp only [List.getElem?_toArray, List.getElem?_cons_succ, List.getElem?_cons_zero, Option.some.injEq] at ho; subst ho; refine Or.inl ⟨by rfl, ?_⟩; intro w hSw; (try dsimp only at hSw); go_simp; try with_reducible rfl)
    try simp only [Act.put, List.setIfInBounds_toArray, List.set_cons_zero, List.set_cons_succ]
    refine call1 (i := 11) (d := some 37) (by kernel_rfl) (by kernel_rfl) ?_
    intro o ho hod K hK; simp only [List.getElem?_toArray, List.getElem?_cons_succ, List.getElem?_cons_zero, Option.some.injEq] at ho; subst ho
    go_simp
    refine (HCR.out (wr.drewN (nq + 1)) _ (fun _ => rfl) (by show b < wr.heap.size; omega)).mono ?_
    rintro e w2 ⟨rfl, rfl⟩
    refine hK.out _ _ ⟨q0', q2'⟩ (fun hHeld => ?_)
    clear hK K
    try simp only [Act.put, List.setIfInBounds_toArray, List.set_cons_zero, List.set_cons_succ]
    refine call1 (i := 12) (d := some 38) (by kernel_rfl) (by kernel_rfl) ?_
    intro o ho hod K hK; simp only [List.getElem?_toArray, List.getElem?_cons_succ, List.getElem?_cons_zero, Option.some.injEq] at ho; subst ho
    go_simp
    refine (appendSumC wr.heap.size (.slice none 0 0) [] V (wr.drewN (nq + 1)) (Nat.le_refl _) (by simp) (World.ownsRow_nil _ _ _ _) hVb).mono ?_
    rintro e w3 ⟨v3, rfl, o3, b3⟩
    have q03 := (b3.cell (p := ⟨cb, 0, none⟩) hlt).trans q0'
    have q23 := (b3.cell (p := ⟨cb, 2, none⟩) hlt).trans q2'
    refine hK.out _ _ ⟨q03, q23⟩ (fun hHeld => ?_)
    clear hK K
    try simp only [Act.put, List.setIfInBounds_toArray, List.set_cons_zero, List.set_cons_succ]
    refine take1 (i := 13) (d := some 5) (v := ?_) (by kernel_rfl) (by kernel_rfl) (by kernel_rfl) (by kernel_rfl) (fun _ _ _ h => h) ?_ hHeld ?_
    rotate_left
    · (intro o ho; simp only [List.getElem?_toArray, List.getElem?_cons_succ, List.getElem?_cons_zero, Option.some.injEq] at ho; subst ho; refine Or.inl ⟨by rfl, ?_⟩; intro w hSw; (try dsimp only at hSw); go_simp; try with_reducible rfl)
    try simp only [Act.put, List.setIfInBounds_toArray, List.set_cons_zero, List.set_cons_succ]
    refine wpAnyH_done (by kernel_rfl) ?_ _
    clear hHeld q0' q2'
    obtain ⟨g3, cp3, rfl, hg3, hg3', _, _, _, s3⟩ := o3.shape (by simp [sum4])
    have hl3 : ([] ++ sum4 V).length = 4 := by simp [sum4]
    rw [hl3] at s3
    have HS3 := hid s3
    have HB3 : Hid (Below wr.heap.size wr w3) := hid ⟨b3.os, b3.tape, b3.output, b3.size, b3.block⟩
    have HC3 := hid (HC.out w3 (fun i => b3.cell (p := ⟨b, i, none⟩) (show b < wr.heap.size by omega)))
    have hl3' := hl3
    clear o3 s3 b3 hl3 q23
    rw [hl3']
    clear hl3'
    by_cases hok : sumOk F y V
    · have HEQ : Hid (∀ q2, Calls Tryd.prog 46 #[.slice (some ⟨g3, 0, none⟩) 4 cp3, .slice (some ⟨b, y, none⟩) 4 q2] w3 fun e w' => e = .returned (.bool true) ∧ w' = w3) := hid (fun q2 => by
        rcases HS3.out with h0 | ⟨b', off', e, hb', hc'⟩
        · omega
        injection e with e; injection e with e1 e2 _
        subst e1 e2
        exact bytesEqC g3 0 b y 4 cp3 q2 (gz (sum4 V)) (shF F y) true w3 (gz_byte (fun v hv => by simp [sum4] at hv; omega)) (shF_byt hF y) hc' (fun i hi => HC3.out (y + i) (by have := HX.out; omega)) (by simp; intro i hi; exact (sum_iff.2 hok) i hi))
      go_wp2_with fail
      refine (HEQ.out _).mono ?_
      rintro e w4 ⟨rfl, rfl⟩
      have h14 := (HB3.out.cell (p := ⟨cb, 1, none⟩) hlt).trans h1
      have h34 := (HB3.out.cell (p := ⟨cb, 3, none⟩) hlt).trans h3
      have h64 := (HB3.out.cell (p := ⟨cb, 6, none⟩) hlt).trans HI.out.c6
      go_wp2_with fail
      have HI4 := hid (HI.out.below HB3.out)
      have hlt4 : cb < w4.heap.size := HI4.out.lt
      obtain ⟨fa, fm, fc, rfl⟩ := row_form9 HI4.out.fr.row
      have HCP : Hid (∀ cap, Calls Tryd.prog 15 #[.slice (some ⟨b, x, none⟩) ln cap] w4.drew fun e w' => ∃ v, e = .returned v ∧ Own w' w4.heap.size v (payl (shF F x) ln) ∧ Below w4.heap.size w4.drew w') := hid (fun cap => copyC _ ln cap (shF F x) w4.drew (by omega) (.inr ⟨b, x, rfl, by show b < w4.heap.size; omega, fun i hi => HC3.out (x + i) (by have := HX.out; omega)⟩))
      have HS : Hid (firstF (shF F p) (N - p) = (0, at' + ln + 4)) := hid ((HFi.out _).2 (by
        have hX := HX.out
        rw [if_neg (by omega), if_pos (by rw [HV.out, sumOk_sh, show p + (at' + ln) = y by omega]; exact hok)]))
      have HFG : Hid (feedF F N p = ((feedF F N z).1, (feedF F N z).2.1, (F (p + 2), payl (shF F x) ln) :: (feedF F N z).2.2)) := hid (by
        have hX := HX.out
        have := feedF_go (f := F) (N := N) (p := p) (by rw [HS.out]; simp)
        rw [HS.out] at this
        rw [this]
        have e : frameF F N p = (F (p + 2), payl (shF F x) ln) := by unfold frameF; rw [HH.out, hX.1]
        rw [e, show p + (at' + ln + 4) = z by omega])
      obtain ⟨kd, hkd⟩ : ∃ kd, F (p + 2) = kd := ⟨_, rfl⟩
      rw [hkd] at HFG h34
      clear hkd
      obtain ⟨j0, hj, jz0, jz1, jz2⟩ := info_parts Tryd.infoFrame
      refine wp_region_held_drew (S := fun w' => w'.cell? ⟨cb, 0, none⟩ = some (.slice (some ⟨b, 0, none⟩) N c) ∧ w'.cell? ⟨cb, 1, none⟩ = some (.int .i64 (x : Int)) ∧ w'.cell? ⟨cb, 3, none⟩ = some (.int .i64 kd)) (by kernel_rfl) ⟨q03, h14, h34⟩ (fun hHeld => ?_)
      refine take1 (i := 0) (d := some 52) (v := ?_) (by kernel_rfl) (by kernel_rfl) (by kernel_rfl) (by kernel_rfl) (fun _ _ _ h => h) ?_ hHeld ?_
      rotate_left
      · (intro o ho; simp only [List.getElem?_toArray, List.getElem?_cons_succ, List.getElem?_cons_zero, Option.some.injEq] at ho; subst ho; refine Or.inl ⟨by rfl, ?_⟩; intro w hSw; (try dsimp only at hSw); go_simp; try with_reducible rfl)
      try simp only [Act.put, List.setIfInBounds_toArray, List.set_cons_zero, List.set_cons_succ]
      refine take1 (i := 1) (d := some 53) (v := ?_) (by kernel_rfl) (by kernel_rfl) (by kernel_rfl) (by kernel_rfl) (fun _ _ _ h => h) ?_ hHeld ?_
      rotate_left
      · (intro o ho; simp only [List.getElem?_toArray, List.getElem?_cons_succ, List.getElem?_cons_zero, Option.some.injEq] at ho; subst ho; refine Or.inl ⟨by rfl, ?_⟩; intro w hSw; (try dsimp only at hSw); go_simp; try with_reducible rfl)
      try simp only [Act.put, List.setIfInBounds_toArray, List.set_cons_zero, List.set_cons_succ]
      refine take1 (i := 2) (d := some 54) (v := ?_) (by kernel_rfl) (by kernel_rfl) (by kernel_rfl) (by kernel_rfl) (fun _ _ _ h => h) ?_ hHeld ?_
      rotate_left
      · (intro o ho; simp only [List.getElem?_toArray, List.getElem?_cons_succ, List.getElem?_cons_zero, Option.some.injEq] at ho; subst ho; refine Or.inl ⟨by rfl, ?_⟩; intro w hSw; (try dsimp only at hSw); go_simp; try with_reducible rfl)
      try simp only [Act.put, List.setIfInBounds_toArray, List.set_cons_zero, List.set_cons_succ]
      refine take1 (i := 3) (d := some 55) (v := ?_) (by kernel_rfl) (by kernel_rfl) (by kernel_rfl) (by kernel_rfl) (fun _ _ _ h => h) ?_ hHeld ?_
      rotate_left
      · (intro o ho; simp only [List.getElem?_toArray, List.getElem?_cons_succ, List.getElem?_cons_zero, Option.some.injEq] at ho; subst ho; refine Or.inl ⟨by rfl, ?_⟩; intro w hSw; (try dsimp only at hSw); go_simp; try with_reducible rfl)
      try simp only [Act.put, List.setIfInBounds_toArray, List.set_cons_zero, List.set_cons_succ]
      refine take1 (i := 5) (d := some 57) (v := ?_) (by kernel_rfl) (by kernel_rfl) (by kernel_rfl) (by kernel_rfl) (fun _ _ _ h => h) ?_ hHeld ?_
      rotate_left
      · (intro o ho; simp only [List.getElem?_toArray, List.getElem?_cons_succ, List.getElem?_cons_zero, Option.some.injEq] at ho; subst ho; refine Or.inl ⟨by rfl, ?_⟩; intro w hSw; (try dsimp only at hSw); go_simp; try with_reducible rfl)
      try simp only [Act.put, List.setIfInBounds_toArray, List.set_cons_zero, List.set_cons_succ]
      refine take1 (i := 6) (d := some 58) (v := ?_) (by kernel_rfl) (by kernel_rfl) (by kernel_rfl) (by kernel_rfl) (fun _ _ _ h => h) ?_ hHeld ?_
      rotate_left
      · (intro o ho; simp only [List.getElem?_toArray, List.getElem?_cons_succ, List.getElem?_cons_zero, Option.some.injEq] at ho; subst ho; refine Or.inl ⟨by rfl, ?_⟩; intro w hSw; (try dsimp only at hSw); go_simp; try with_reducible rfl)
      try simp only [Act.put, List.setIfInBounds_toArray, List.set_cons_zero, List.set_cons_succ]
      refine take1 (i := 7) (d := some 59) (v := ?_) (by kernel_rfl) (by kernel_rfl) (by kernel_rfl) (by kernel_rfl) (fun _ _ _ h => h) ?_ hHeld ?_
      rotate_left
      · (intro o ho; simp only [List.getElem?_toArray, List.getElem?_cons_succ, List.getElem?_cons_zero, Option.some.injEq] at ho; subst ho; refine Or.inl ⟨by rfl, ?_⟩; intro w hSw; (try dsimp only at hSw); go_simp; try with_reducible rfl)
      try simp only [Act.put, List.setIfInBounds_toArray, List.set_cons_zero, List.set_cons_succ]
      refine take1 (i := 8) (d := some 60) (v := ?_) (by kernel_rfl) (by kernel_rfl) (by kernel_rfl) (by kernel_rfl) (fun _ _ _ h => h) ?_ hHeld ?_
      rotate_left
      · (intro o ho; simp only [List.getElem?_toArray, List.getElem?_cons_succ, List.getElem?_cons_zero, Option.some.injEq] at ho; subst ho; refine Or.inl ⟨by rfl, ?_⟩; intro w hSw; (try dsimp only at hSw); go_simp; try with_reducible rfl)
      try simp only [Act.put, List.setIfInBounds_toArray, List.set_cons_zero, List.set_cons_succ]
      refine take1 (i := 9) (d := some 61) (v := ?_) (by kernel_rfl) (by kernel_rfl) (by kernel_rfl) (by kernel_rfl) (fun _ _ _ h => h) ?_ hHeld ?_
      rotate_left
      · (intro o ho; simp only [List.getElem?_toArray, List.getElem?_cons_succ, List.getElem?_cons_zero, Option.some.injEq] at ho; subst ho; refine Or.inl ⟨by rfl, ?_⟩; intro w hSw; (try dsimp only at hSw); go_simp; try with_reducible rfl)
      try simp only [Act.put, List.setIfInBounds_toArray, List.set_cons_zero, List.set_cons_succ]
      refine take1 (i := 10) (d := some 62) (v := ?_) (by kernel_rfl) (by kernel_rfl) (by kernel_rfl) (by kernel_rfl) (fun _ _ _ h => h) ?_ hHeld ?_
      rotate_left
      · (intro o ho; simp only [List.getElem?_toArray, List.getElem?_cons_succ, List.getElem?_cons_zero, Option.some.injEq] at ho; subst ho; refine Or.inl ⟨by rfl, ?_⟩; intro w hSw; (try dsimp only at hSw); go_simp; try with_reducible rfl)
      try simp only [Act.put, List.setIfInBounds_toArray, List.set_cons_zero, List.set_cons_succ]
      refine take1 (i := 11) (d := some 63) (v := ?_) (by kernel_rfl) (by kernel_rfl) (by kernel_rfl) (by kernel_rfl) (fun _ _ _ h => h) ?_ hHeld ?_
      rotate_left
      · (intro o ho; simp only [List.getElem?_toArray, List.getElem?_cons_succ, List.getElem?_cons_zero, Option.some.injEq] at ho; subst ho; refine Or.inl ⟨by rfl, ?_⟩; intro w hSw; (try dsimp only at hSw); go_simp; try with_reducible rfl)
      try simp only [Act.put, List.setIfInBounds_toArray, List.set_cons_zero, List.set_cons_succ]
      refine take1 (i := 12) (d := some 64) (v := ?_) (by kernel_rfl) (by kernel_rfl) (by kernel_rfl) (by kernel_rfl) (fun _ _ _ h => h) ?_ hHeld ?_
      rotate_left
      · (intro o ho; simp only [List.getElem?_toArray, List.getElem?_cons_succ, List.getElem?_cons_zero, Option.some.injEq] at ho; subst ho; refine Or.inl ⟨by rfl, ?_⟩; intro w hSw; (try dsimp only at hSw); go_simp; try with_reducible rfl)
      try simp only [Act.put, List.setIfInBounds_toArray, List.set_cons_zero, List.set_cons_succ]
      refine take1 (i := 13) (d := some 65) (v := ?_) (by kernel_rfl) (by kernel_rfl) (by kernel_rfl) (by kernel_rfl) (fun _ _ _ h => h) ?_ hHeld ?_
      rotate_left
      · (intro o ho; simp only [List.getElem?_toArray, List.getElem?_cons_succ, List.getElem?_cons_zero, Option.some.injEq] at ho; subst ho; refine Or.inl ⟨by rfl, ?_⟩; intro w hSw; (try dsimp only at hSw); go_simp; try with_reducible rfl)
      try simp only [Act.put, List.setIfInBounds_toArray, List.set_cons_zero, List.set_cons_succ]
      refine take1 (i := 14) (d := some 66) (v := ?_) (by kernel_rfl) (by kernel_rfl) (by kernel_rfl) (by kernel_rfl) (fun _ _ _ h => h) ?_ hHeld ?_
      rotate_left
      · (intro o ho; simp only [List.getElem?_toArray, List.getElem?_cons_succ, List.getElem?_cons_zero, Option.some.injEq] at ho; subst ho; refine Or.inl ⟨by rfl, ?_⟩; intro w hSw; (try dsimp only at hSw); go_simp; try with_reducible rfl)
      try simp only [Act.put, List.setIfInBounds_toArray, List.set_cons_zero, List.set_cons_succ]
      refine take1 (i := 15) (d := some 67) (v := ?_) (by kernel_rfl) (by kernel_rfl) (by kernel_rfl) (by kernel_rfl) (fun _ _ _ h => h) ?_ hHeld ?_
      rotate_left
      · (intro o ho; simp only [List.getElem?_toArray, List.getElem?_cons_succ, List.getElem?_cons_zero, Option.some.injEq] at ho; subst ho; refine Or.inl ⟨by rfl, ?_⟩; intro w hSw; (try dsimp only at hSw); go_simp; try with_reducible rfl)
      try simp only [Act.put, List.setIfInBounds_toArray, List.set_cons_zero, List.set_cons_succ]
      refine take1 (i := 16) (d := some 68) (v := ?_) (by kernel_rfl) (by kernel_rfl) (by kernel_rfl) (by kernel_rfl) (fun _ _ _ h => h) ?_ hHeld ?_
      rotate_left
      · (intro o ho; simp only [List.getElem?_toArray, List.getElem?_cons_succ, List.getElem?_cons_zero, Option.some.injEq] at ho; subst ho; refine Or.inl ⟨by rfl, ?_⟩; intro w hSw; (try dsimp only at hSw); go_simp; try with_reducible rfl)
      try simp only [Act.put, List.setIfInBounds_toArray, List.set_cons_zero, List.set_cons_succ]
      refine take1 (i := 17) (d := some 69) (v := ?_) (by kernel_rfl) (by kernel_rfl) (by kernel_rfl) (by kernel_rfl) (fun _ _ _ h => h) ?_ hHeld ?_
      rotate_left
      · (intro o ho; simp only [List.getElem?_toArray, List.getElem?_cons_succ, List.getElem?_cons_zero, Option.some.injEq] at ho; subst ho; refine Or.inl ⟨by rfl, ?_⟩; intro w hSw; (try dsimp only at hSw); go_simp; try with_reducible rfl)
      try simp only [Act.put, List.setIfInBounds_toArray, List.set_cons_zero, List.set_cons_succ]
      refine take1 (i := 18) (d := some 70) (v := ?_) (by kernel_rfl) (by kernel_rfl) (by kernel_rfl) (by kernel_rfl) (fun _ _ _ h => h) ?_ hHeld ?_
      rotate_left
      · (intro o ho; simp only [List.getElem?_toArray, List.getElem?_cons_succ, List.getElem?_cons_zero, Option.some.injEq] at ho; subst ho; refine Or.inl ⟨by rfl, ?_⟩; intro w hSw; (try dsimp only at hSw); go_simp; try with_reducible rfl)
      try simp only [Act.put, List.setIfInBounds_toArray, List.set_cons_zero, List.set_cons_succ]
      refine take1 (i := 19) (d := some 71) (v := ?_) (by kernel_rfl) (by kernel_rfl) (by kernel_rfl) (by kernel_rfl) (fun _ _ _ h => h) ?_ hHeld ?_
      rotate_left
      · (intro o ho; simp only [List.getElem?_toArray, List.getElem?_cons_succ, List.getElem?_cons_zero, Option.some.injEq] at ho; subst ho; refine Or.inl ⟨by rfl, ?_⟩; intro w hSw; (try dsimp only at hSw); go_simp; try with_reducible rfl)
      try simp only [Act.put, List.setIfInBounds_toArray, List.set_cons_zero, List.set_cons_succ]
      refine take1 (i := 20) (d := some 72) (v := ?_) (by kernel_rfl) (by kernel_rfl) (by kernel_rfl) (by kernel_rfl) (fun _ _ _ h => h) ?_ hHeld ?_
      rotate_left
      · (intro o ho; simp only [List.getElem?_toArray, List.getElem?_cons_succ, List.getElem?_cons_zero, Option.some.injEq] at ho; subst ho; refine Or.inl ⟨by rfl, ?_⟩; intro w hSw; (try dsimp only at hSw); go_simp; try with_reducible rfl)
      try simp only [Act.put, List.setIfInBounds_toArray, List.set_cons_zero, List.set_cons_succ]
      refine ready2 (i := 4) (j := 21) (d := some 56) (d' := some 73) (by kernel_rfl) (by kernel_rfl) (by kernel_rfl) ?_ ?_
      · intro o ho hod K hK; simp only [List.getElem?_toArray, List.getElem?_cons_succ, List.getElem?_cons_zero, Option.some.injEq] at ho; subst ho
        go_simp
        refine hK.out _ _ ⟨q03, h14, h34⟩ (fun hHeld => ?_)
        clear hK K
        try simp only [Act.put, List.setIfInBounds_toArray, List.set_cons_zero, List.set_cons_succ]
        refine call1 (i := 21) (d := some 73) (by kernel_rfl) (by kernel_rfl) ?_
        intro o ho hod K hK; simp only [List.getElem?_toArray, List.getElem?_cons_succ, List.getElem?_cons_zero, Option.some.injEq] at ho; subst ho
        go_simp
        refine (HCP.out _).mono ?_
        rintro e w5 ⟨v5, rfl, o5, b5⟩
        obtain ⟨pa, pc, rfl, _⟩ := o5.any
        rw [payl_len] at o5 ⊢
        have kc := fun i => b5.cell (p := ⟨cb, i, none⟩) hlt4
        have S5 := And.intro ((kc 0).trans q03) (And.intro ((kc 1).trans h14) ((kc 3).trans h34))
        have r6 := (kc 6).trans h64
        refine hK.out _ _ S5 (fun hHeld => ?_)
        clear hK K
        try simp only [Act.put, List.setIfInBounds_toArray, List.set_cons_zero, List.set_cons_succ]
        refine take1 (i := 22) (d := some 74) (v := ?_) (by kernel_rfl) (by kernel_rfl) (by kernel_rfl) (by kernel_rfl) (fun _ _ _ h => h) ?_ hHeld ?_
        rotate_left
        · (intro o ho; simp only [List.getElem?_toArray, List.getElem?_cons_succ, List.getElem?_cons_zero, Option.some.injEq] at ho; subst ho; refine Or.inl ⟨by rfl, ?_⟩; intro w hSw; (try dsimp only at hSw); go_simp; try with_reducible rfl)
        try simp only [Act.put, List.setIfInBounds_toArray, List.set_cons_zero, List.set_cons_succ]
        refine call1 (i := 23) (d := some 75) (by kernel_rfl) (by kernel_rfl) ?_
        intro o ho hod K hK; simp only [List.getElem?_toArray, List.getElem?_cons_succ, List.getElem?_cons_zero, Option.some.injEq] at ho; subst ho
        go_simp
        have S6 : ∀ t, (w5.alloc (.cells #[.int .i64 kd, .slice pa ln pc] t)).cell? ⟨cb, 0, none⟩ = some (.slice (some ⟨b, 0, none⟩) N c) ∧ (w5.alloc (.cells #[.int .i64 kd, .slice pa ln pc] t)).cell? ⟨cb, 1, none⟩ = some (.int .i64 (x : Int)) ∧ (w5.alloc (.cells #[.int .i64 kd, .slice pa ln pc] t)).cell? ⟨cb, 3, none⟩ = some (.int .i64 kd) := fun t => by
          have hz5 : cb < w5.heap.size := Nat.lt_of_lt_of_le hlt4 b5.size
          exact ⟨(World.cell?_alloc_lt _ _ ⟨cb, 0, none⟩ hz5).trans S5.1, (World.cell?_alloc_lt _ _ ⟨cb, 1, none⟩ hz5).trans S5.2.1, (World.cell?_alloc_lt _ _ ⟨cb, 3, none⟩ hz5).trans S5.2.2⟩
        have r66 : (w5.alloc (.cells #[.int .i64 kd, .slice pa ln pc] 41)).cell? ⟨cb, 6, none⟩ = some (.slice fa fm fc) := (World.cell?_alloc_lt _ _ ⟨cb, 6, none⟩ (Nat.lt_of_lt_of_le hlt4 b5.size)).trans r6
        refine hK.out _ _ (S6 _) (fun hHeld => ?_)
        clear hK K
        try simp only [Act.put, List.setIfInBounds_toArray, List.set_cons_zero, List.set_cons_succ]
        refine call1 (i := 24) (d := some 76) (by kernel_rfl) (by kernel_rfl) ?_
        intro o ho hod K hK; simp only [List.getElem?_toArray, List.getElem?_cons_succ, List.getElem?_cons_zero, Option.some.injEq] at ho; subst ho
        rw [if_pos (by rfl)]
        have RW : (w5.alloc (.cells #[.int .i64 kd, .slice pa ln pc] 41)).ownsRow (cb + 1) 41 2 (.slice fa fm fc) l.length (fxCells l) := World.ownsRow.alloc (HI4.out.fr.below (⟨b5.os, b5.tape, b5.output, b5.size, b5.block⟩ : Below w4.heap.size w4 w5)).row _
        refine wp_app_at _ _ 26 (by rfl) (cb + 1) 41 j0 _ 2 32 Tryd.underlying26 hj jz0 jz1 jz2 rfl (by decide) (.slice fa fm fc) l.length (fxCells l) (by rfl) RW ⟨w5.heap.size, 0, none⟩ 1 1 [.int .i64 kd, .slice pa ln pc] (by rfl) (by rfl) (cell2A w5 _ _ _) (by intro u hu; simp at hu; rcases hu with rfl | rfl <;> rfl) (by have := HI4.out.ll; unfold maxLen; omega) (by have := HI4.out.ll; omega) (by have := b5.size; have : w4.heap.size ≤ w5.heap.size := this; simp; omega) ?_
        intro v9 w9 hown9 hgr9 hloc9
        obtain ⟨y9, m9, c9, rfl⟩ := row_form9 hown9
        have b50 : Below w4.heap.size w4 w5 := ⟨b5.os, b5.tape, b5.output, b5.size, b5.block⟩
        have gg9 : w5.grownBy w9 (Value.slice fa fm fc).ownBlock := (World.grownBy_alloc w5 _ _).trans hgr9
        have HG9 := hid (HI4.out.go (z := z) b50 o5 gg9 hown9 (hloc9.imp id (fun e => ⟨_, e, by simp⟩)) h14 HFG.out (by have := HX.out; omega) (by omega))
        have hfv : some cb ≠ (Value.slice fa fm fc).ownBlock := fun e => by have := (World.ownsRow.lt HI4.out.fr.row cb e.symm).1; omega
        have hk9 := fun i => World.cell?_of_block (a := ⟨cb, i, none⟩) (gg9.block cb (Nat.lt_of_lt_of_le hlt4 b5.size) hfv)
        have hf9 := fun i => (World.frozen?_of_block (a := ⟨cb, i, none⟩) (gg9.block cb (Nat.lt_of_lt_of_le hlt4 b5.size) hfv)).trans (b50.frozen (p := ⟨cb, i, none⟩) hlt4)
        have S9 := And.intro ((hk9 0).trans S5.1) (And.intro ((hk9 1).trans S5.2.1) ((hk9 3).trans S5.2.2))
        have r69 := (hk9 6).trans r6
        have r29 := ((hk9 2).trans (b50.cell (p := ⟨cb, 2, none⟩) hlt4)).trans HI4.out.c2
        have z6 := (hf9 6).trans (HI4.out.zz 6)
        have z1 := (hf9 1).trans (HI4.out.zz 1)
        have z2 := (hf9 2).trans (HI4.out.zz 2)
        clear hk9 hf9
        refine hK.out _ _ S9 (fun hHeld => ?_)
        clear hK K
        try simp only [Act.put, List.setIfInBounds_toArray, List.set_cons_zero, List.set_cons_succ]
        refine take1 (i := 25) (d := some 77) (v := ?_) (by kernel_rfl) (by kernel_rfl) (by kernel_rfl) (by kernel_rfl) (fun _ _ _ h => h) ?_ hHeld ?_
        rotate_left
        · (intro o ho; simp only [List.getElem?_toArray, List.getElem?_cons_succ, List.getElem?_cons_zero, Option.some.injEq] at ho; subst ho; refine Or.inl ⟨by rfl, ?_⟩; intro w hSw; (try dsimp only at hSw); go_simp; try with_reducible rfl)
        try simp only [Act.put, List.setIfInBounds_toArray, List.set_cons_zero, List.set_cons_succ]
        refine take1 (i := 26) (d := some 78) (v := ?_) (by kernel_rfl) (by kernel_rfl) (by kernel_rfl) (by kernel_rfl) (fun _ _ _ h => h) ?_ hHeld ?_
        rotate_left
        · (intro o ho; simp only [List.getElem?_toArray, List.getElem?_cons_succ, List.getElem?_cons_zero, Option.some.injEq] at ho; subst ho; refine Or.inl ⟨by rfl, ?_⟩; intro w hSw; (try dsimp only at hSw); go_simp; try with_reducible rfl)
        try simp only [Act.put, List.setIfInBounds_toArray, List.set_cons_zero, List.set_cons_succ]
        refine call1 (i := 27) (d := none) (by kernel_rfl) (by kernel_rfl) ?_
        intro o ho hod K hK; simp only [List.getElem?_toArray, List.getElem?_cons_succ, List.getElem?_cons_zero, Option.some.injEq] at ho; subst ho
        go_simp
        have d0 : (w9.setCell ⟨cb, 6, none⟩ (.slice y9 m9 c9)).cell? ⟨cb, 0, none⟩ = some (.slice (some ⟨b, 0, none⟩) N c) := (cell_set_ne (by omega)).trans S9.1
        have d1 : (w9.setCell ⟨cb, 6, none⟩ (.slice y9 m9 c9)).cell? ⟨cb, 1, none⟩ = some (.int .i64 (x : Int)) := (cell_set_ne (by omega)).trans S9.2.1
        have d3 : (w9.setCell ⟨cb, 6, none⟩ (.slice y9 m9 c9)).cell? ⟨cb, 3, none⟩ = some (.int .i64 kd) := (cell_set_ne (by omega)).trans S9.2.2
        have d2 : (w9.setCell ⟨cb, 6, none⟩ (.slice y9 m9 c9)).cell? ⟨cb, 2, none⟩ = some (.int .i64 (p : Int)) := (cell_set_ne (by omega)).trans r29
        have y1 : (w9.setCell ⟨cb, 6, none⟩ (.slice y9 m9 c9)).frozen? ⟨cb, 1, none⟩ = false := by rw [World.frozen?_setCell]; exact z1
        have y2 : (w9.setCell ⟨cb, 6, none⟩ (.slice y9 m9 c9)).frozen? ⟨cb, 2, none⟩ = false := by rw [World.frozen?_setCell]; exact z2
        refine hK.out _ _ ⟨d0, d1, d3⟩ (fun hHeld => ?_)
        clear hK K
        try simp only [Act.put, List.setIfInBounds_toArray, List.set_cons_zero, List.set_cons_succ]
        refine wpAnyH_done (by kernel_rfl) ?_ _
        obtain ⟨w10, hw10⟩ : ∃ w10, w9.setCell ⟨cb, 6, none⟩ (.slice y9 m9 c9) = w10 := ⟨_, rfl⟩
        rw [hw10] at HG9 d0 d1 d2 d3 y1 y2 ⊢
        have HPZ : Hid (p < z) := hid (by have := HX.out; omega)
        clear hHeld hw10 hown9 hgr9 hloc9 b50 gg9 S9 r69 r29 z6 z1 z2 RW b5 o5 S5 r6 kc
        clear i0 i1 i2 i3 i4 i5 i6 i7 hpc hyc hxc hzy hyx h1 h3 h4 h14 h34 h64 q0 q2 q03 hd hN wxy wyz hVb hg3' HCR HC HFi HEQ HS3 HC3 HB3 HCP HS HFG HI HH hl4 hat hle n3 hc1 hc2 hn hfv d0 d3
        go_wp2_with fail
        go_ret
        exact .inr ⟨rfl, z, _, _, HPZ.out, HG9.out.1, HG9.out.2⟩
      · intro o ho hod K hK; simp only [List.getElem?_toArray, List.getElem?_cons_succ, List.getElem?_cons_zero, Option.some.injEq] at ho; subst ho
        go_simp
        refine (HCP.out _).mono ?_
        rintro e w5 ⟨v5, rfl, o5, b5⟩
        obtain ⟨pa, pc, rfl, _⟩ := o5.any
        rw [payl_len] at o5 ⊢
        have kc := fun i => b5.cell (p := ⟨cb, i, none⟩) hlt4
        have S5 := And.intro ((kc 0).trans q03) (And.intro ((kc 1).trans h14) ((kc 3).trans h34))
        have r6 := (kc 6).trans h64
        refine hK.out _ _ S5 (fun hHeld => ?_)
        clear hK K
        try simp only [Act.put, List.setIfInBounds_toArray, List.set_cons_zero, List.set_cons_succ]
        refine take1 (i := 22) (d := some 74) (v := ?_) (by kernel_rfl) (by kernel_rfl) (by kernel_rfl) (by kernel_rfl) (fun _ _ _ h => h) ?_ hHeld ?_
        rotate_left
        · (intro o ho; simp only [List.getElem?_toArray, List.getElem?_cons_succ, List.getElem?_cons_zero, Option.some.injEq] at ho; subst ho; refine Or.inl ⟨by rfl, ?_⟩; intro w hSw; (try dsimp only at hSw); go_simp; try with_reducible rfl)
        try simp only [Act.put, List.setIfInBounds_toArray, List.set_cons_zero, List.set_cons_succ]
        refine ready2 (i := 4) (j := 23) (d := some 56) (d' := some 75) (by kernel_rfl) (by kernel_rfl) (by kernel_rfl) ?_ ?_
        · intro o ho hod K hK; simp only [List.getElem?_toArray, List.getElem?_cons_succ, List.getElem?_cons_zero, Option.some.injEq] at ho; subst ho
          go_simp
          refine hK.out _ _ S5 (fun hHeld => ?_)
          clear hK K
          try simp only [Act.put, List.setIfInBounds_toArray, List.set_cons_zero, List.set_cons_succ]
          refine call1 (i := 23) (d := some 75) (by kernel_rfl) (by kernel_rfl) ?_
          intro o ho hod K hK; simp only [List.getElem?_toArray, List.getElem?_cons_succ, List.getElem?_cons_zero, Option.some.injEq] at ho; subst ho
          go_simp
          have S6 : ∀ t, (w5.alloc (.cells #[.int .i64 kd, .slice pa ln pc] t)).cell? ⟨cb, 0, none⟩ = some (.slice (some ⟨b, 0, none⟩) N c) ∧ (w5.alloc (.cells #[.int .i64 kd, .slice pa ln pc] t)).cell? ⟨cb, 1, none⟩ = some (.int .i64 (x : Int)) ∧ (w5.alloc (.cells #[.int .i64 kd, .slice pa ln pc] t)).cell? ⟨cb, 3, none⟩ = some (.int .i64 kd) := fun t => by
            have hz5 : cb < w5.heap.size := Nat.lt_of_lt_of_le hlt4 b5.size
            exact ⟨(World.cell?_alloc_lt _ _ ⟨cb, 0, none⟩ hz5).trans S5.1, (World.cell?_alloc_lt _ _ ⟨cb, 1, none⟩ hz5).trans S5.2.1, (World.cell?_alloc_lt _ _ ⟨cb, 3, none⟩ hz5).trans S5.2.2⟩
          have r66 : (w5.alloc (.cells #[.int .i64 kd, .slice pa ln pc] 41)).cell? ⟨cb, 6, none⟩ = some (.slice fa fm fc) := (World.cell?_alloc_lt _ _ ⟨cb, 6, none⟩ (Nat.lt_of_lt_of_le hlt4 b5.size)).trans r6
          refine hK.out _ _ (S6 _) (fun hHeld => ?_)
          clear hK K
          try simp only [Act.put, List.setIfInBounds_toArray, List.set_cons_zero, List.set_cons_succ]
          refine call1 (i := 24) (d := some 76) (by kernel_rfl) (by kernel_rfl) ?_
          intro o ho hod K hK; simp only [List.getElem?_toArray, List.getElem?_cons_succ, List.getElem?_cons_zero, Option.some.injEq] at ho; subst ho
          rw [if_pos (by rfl)]
          have RW : (w5.alloc (.cells #[.int .i64 kd, .slice pa ln pc] 41)).ownsRow (cb + 1) 41 2 (.slice fa fm fc) l.length (fxCells l) := World.ownsRow.alloc (HI4.out.fr.below (⟨b5.os, b5.tape, b5.output, b5.size, b5.block⟩ : Below w4.heap.size w4 w5)).row _
          refine wp_app_at _ _ 26 (by rfl) (cb + 1) 41 j0 _ 2 32 Tryd.underlying26 hj jz0 jz1 jz2 rfl (by decide) (.slice fa fm fc) l.length (fxCells l) (by rfl) RW ⟨w5.heap.size, 0, none⟩ 1 1 [.int .i64 kd, .slice pa ln pc] (by rfl) (by rfl) (cell2A w5 _ _ _) (by intro u hu; simp at hu; rcases hu with rfl | rfl <;> rfl) (by have := HI4.out.ll; unfold maxLen; omega) (by have := HI4.out.ll; omega) (by have := b5.size; have : w4.heap.size ≤ w5.heap.size := this; simp; omega) ?_
          intro v9 w9 hown9 hgr9 hloc9
          obtain ⟨y9, m9, c9, rfl⟩ := row_form9 hown9
          have b50 : Below w4.heap.size w4 w5 := ⟨b5.os, b5.tape, b5.output, b5.size, b5.block⟩
          have gg9 : w5.grownBy w9 (Value.slice fa fm fc).ownBlock := (World.grownBy_alloc w5 _ _).trans hgr9
          have HG9 := hid (HI4.out.go (z := z) b50 o5 gg9 hown9 (hloc9.imp id (fun e => ⟨_, e, by simp⟩)) h14 HFG.out (by have := HX.out; omega) (by omega))
          have hfv : some cb ≠ (Value.slice fa fm fc).ownBlock := fun e => by have := (World.ownsRow.lt HI4.out.fr.row cb e.symm).1; omega
          have hk9 := fun i => World.cell?_of_block (a := ⟨cb, i, none⟩) (gg9.block cb (Nat.lt_of_lt_of_le hlt4 b5.size) hfv)
          have hf9 := fun i => (World.frozen?_of_block (a := ⟨cb, i, none⟩) (gg9.block cb (Nat.lt_of_lt_of_le hlt4 b5.size) hfv)).trans (b50.frozen (p := ⟨cb, i, none⟩) hlt4)
          have S9 := And.intro ((hk9 0).trans S5.1) (And.intro ((hk9 1).trans S5.2.1) ((hk9 3).trans S5.2.2))
          have r69 := (hk9 6).trans r6
          have r29 := ((hk9 2).trans (b50.cell (p := ⟨cb, 2, none⟩) hlt4)).trans HI4.out.c2
          have z6 := (hf9 6).trans (HI4.out.zz 6)
          have z1 := (hf9 1).trans (HI4.out.zz 1)
          have z2 := (hf9 2).trans (HI4.out.zz 2)
          clear hk9 hf9
          refine hK.out _ _ S9 (fun hHeld => ?_)
          clear hK K
          try simp only [Act.put, List.setIfInBounds_toArray, List.set_cons_zero, List.set_cons_succ]
          refine take1 (i := 25) (d := some 77) (v := ?_) (by kernel_rfl) (by kernel_rfl) (by kernel_rfl) (by kernel_rfl) (fun _ _ _ h => h) ?_ hHeld ?_
          rotate_left
          · (intro o ho; simp only [List.getElem?_toArray, List.getElem?_cons_succ, List.getElem?_cons_zero, Option.some.injEq] at ho; subst ho; refine Or.inl ⟨by rfl, ?_⟩; intro w hSw; (try dsimp only at hSw); go_simp; try with_reducible rfl)
          try simp only [Act.put, List.setIfInBounds_toArray, List.set_cons_zero, List.set_cons_succ]
          refine take1 (i := 26) (d := some 78) (v := ?_) (by kernel_rfl) (by kernel_rfl) (by kernel_rfl) (by kernel_rfl) (fun _ _ _ h => h) ?_ hHeld ?_
          rotate_left
          · (intro o ho; simp only [List.getElem?_toArray, List.getElem?_cons_succ, List.getElem?_cons_zero, Option.some.injEq] at ho; subst ho; refine Or.inl ⟨by rfl, ?_⟩; intro w hSw; (try dsimp only at hSw); go_simp; try with_reducible rfl)
          try simp only [Act.put, List.setIfInBounds_toArray, List.set_cons_zero, List.set_cons_succ]
          refine call1 (i := 27) (d := none) (by kernel_rfl) (by kernel_rfl) ?_
          intro o ho hod K hK; simp only [List.getElem?_toArray, List.getElem?_cons_succ, List.getElem?_cons_zero, Option.some.injEq] at ho; subst ho
          go_simp
          have d0 : (w9.setCell ⟨cb, 6, none⟩ (.slice y9 m9 c9)).cell? ⟨cb, 0, none⟩ = some (.slice (some ⟨b, 0, none⟩) N c) := (cell_set_ne (by omega)).trans S9.1
          have d1 : (w9.setCell ⟨cb, 6, none⟩ (.slice y9 m9 c9)).cell? ⟨cb, 1, none⟩ = some (.int .i64 (x : Int)) := (cell_set_ne (by omega)).trans S9.2.1
          have d3 : (w9.setCell ⟨cb, 6, none⟩ (.slice y9 m9 c9)).cell? ⟨cb, 3, none⟩ = some (.int .i64 kd) := (cell_set_ne (by omega)).trans S9.2.2
          have d2 : (w9.setCell ⟨cb, 6, none⟩ (.slice y9 m9 c9)).cell? ⟨cb, 2, none⟩ = some (.int .i64 (p : Int)) := (cell_set_ne (by omega)).trans r29
          have y1 : (w9.setCell ⟨cb, 6, none⟩ (.slice y9 m9 c9)).frozen? ⟨cb, 1, none⟩ = false := by rw [World.frozen?_setCell]; exact z1
          have y2 : (w9.setCell ⟨cb, 6, none⟩ (.slice y9 m9 c9)).frozen? ⟨cb, 2, none⟩ = false := by rw [World.frozen?_setCell]; exact z2
          refine hK.out _ _ ⟨d0, d1, d3⟩ (fun hHeld => ?_)
          clear hK K
          try simp only [Act.put, List.setIfInBounds_toArray, List.set_cons_zero, List.set_cons_succ]
          refine wpAnyH_done (by kernel_rfl) ?_ _
          obtain ⟨w10, hw10⟩ : ∃ w10, w9.setCell ⟨cb, 6, none⟩ (.slice y9 m9 c9) = w10 := ⟨_, rfl⟩
          rw [hw10] at HG9 d0 d1 d2 d3 y1 y2 ⊢
          have HPZ : Hid (p < z) := hid (by have := HX.out; omega)
          clear hHeld hw10 hown9 hgr9 hloc9 b50 gg9 S9 r69 r29 z6 z1 z2 RW b5 o5 S5 r6 kc
          clear i0 i1 i2 i3 i4 i5 i6 i7 hpc hyc hxc hzy hyx h1 h3 h4 h14 h34 h64 q0 q2 q03 hd hN wxy wyz hVb hg3' HCR HC HFi HEQ HS3 HC3 HB3 HCP HS HFG HI HH hl4 hat hle n3 hc1 hc2 hn hfv d0 d3
          go_wp2_with fail
          go_ret
          exact .inr ⟨rfl, z, _, _, HPZ.out, HG9.out.1, HG9.out.2⟩
        · intro o ho hod K hK; simp only [List.getElem?_toArray, List.getElem?_cons_succ, List.getElem?_cons_zero, Option.some.injEq] at ho; subst ho
          go_simp
          have S6 : ∀ t, (w5.alloc (.cells #[.int .i64 kd, .slice pa ln pc] t)).cell? ⟨cb, 0, none⟩ = some (.slice (some ⟨b, 0, none⟩) N c) ∧ (w5.alloc (.cells #[.int .i64 kd, .slice pa ln pc] t)).cell? ⟨cb, 1, none⟩ = some (.int .i64 (x : Int)) ∧ (w5.alloc (.cells #[.int .i64 kd, .slice pa ln pc] t)).cell? ⟨cb, 3, none⟩ = some (.int .i64 kd) := fun t => by
            have hz5 : cb < w5.heap.size := Nat.lt_of_lt_of_le hlt4 b5.size
            exact ⟨(World.cell?_alloc_lt _ _ ⟨cb, 0, none⟩ hz5).trans S5.1, (World.cell?_alloc_lt _ _ ⟨cb, 1, none⟩ hz5).trans S5.2.1, (World.cell?_alloc_lt _ _ ⟨cb, 3, none⟩ hz5).trans S5.2.2⟩
          have r66 : (w5.alloc (.cells #[.int .i64 kd, .slice pa ln pc] 41)).cell? ⟨cb, 6, none⟩ = some (.slice fa fm fc) := (World.cell?_alloc_lt _ _ ⟨cb, 6, none⟩ (Nat.lt_of_lt_of_le hlt4 b5.size)).trans r6
          refine hK.out _ _ (S6 _) (fun hHeld => ?_)
          clear hK K
          try simp only [Act.put, List.setIfInBounds_toArray, List.set_cons_zero, List.set_cons_succ]
          refine call1 (i := 4) (d := some 56) (by kernel_rfl) (by kernel_rfl) ?_
          intro o ho hod K hK; simp only [List.getElem?_toArray, List.getElem?_cons_succ, List.getElem?_cons_zero, Option.some.injEq] at ho; subst ho
          go_simp
          refine hK.out _ _ (S6 _) (fun hHeld => ?_)
          clear hK K
          try simp only [Act.put, List.setIfInBounds_toArray, List.set_cons_zero, List.set_cons_succ]
          refine call1 (i := 24) (d := some 76) (by kernel_rfl) (by kernel_rfl) ?_
          intro o ho hod K hK; simp only [List.getElem?_toArray, List.getElem?_cons_succ, List.getElem?_cons_zero, Option.some.injEq] at ho; subst ho
          rw [if_pos (by rfl)]
          have RW : (w5.alloc (.cells #[.int .i64 kd, .slice pa ln pc] 41)).ownsRow (cb + 1) 41 2 (.slice fa fm fc) l.length (fxCells l) := World.ownsRow.alloc (HI4.out.fr.below (⟨b5.os, b5.tape, b5.output, b5.size, b5.block⟩ : Below w4.heap.size w4 w5)).row _
          refine wp_app_at _ _ 26 (by rfl) (cb + 1) 41 j0 _ 2 32 Tryd.underlying26 hj jz0 jz1 jz2 rfl (by decide) (.slice fa fm fc) l.length (fxCells l) (by rfl) RW ⟨w5.heap.size, 0, none⟩ 1 1 [.int .i64 kd, .slice pa ln pc] (by rfl) (by rfl) (cell2A w5 _ _ _) (by intro u hu; simp at hu; rcases hu with rfl | rfl <;> rfl) (by have := HI4.out.ll; unfold maxLen; omega) (by have := HI4.out.ll; omega) (by have := b5.size; have : w4.heap.size ≤ w5.heap.size := this; simp; omega) ?_
          intro v9 w9 hown9 hgr9 hloc9
          obtain ⟨y9, m9, c9, rfl⟩ := row_form9 hown9
          have b50 : Below w4.heap.size w4 w5 := ⟨b5.os, b5.tape, b5.output, b5.size, b5.block⟩
          have gg9 : w5.grownBy w9 (Value.slice fa fm fc).ownBlock := (World.grownBy_alloc w5 _ _).trans hgr9
          have HG9 := hid (HI4.out.go (z := z) b50 o5 gg9 hown9 (hloc9.imp id (fun e => ⟨_, e, by simp⟩)) h14 HFG.out (by have := HX.out; omega) (by omega))
          have hfv : some cb ≠ (Value.slice fa fm fc).ownBlock := fun e => by have := (World.ownsRow.lt HI4.out.fr.row cb e.symm).1; omega
          have hk9 := fun i => World.cell?_of_block (a := ⟨cb, i, none⟩) (gg9.block cb (Nat.lt_of_lt_of_le hlt4 b5.size) hfv)
          have hf9 := fun i => (World.frozen?_of_block (a := ⟨cb, i, none⟩) (gg9.block cb (Nat.lt_of_lt_of_le hlt4 b5.size) hfv)).trans (b50.frozen (p := ⟨cb, i, none⟩) hlt4)
          have S9 := And.intro ((hk9 0).trans S5.1) (And.intro ((hk9 1).trans S5.2.1) ((hk9 3).trans S5.2.2))
          have r69 := (hk9 6).trans r6
          have r29 := ((hk9 2).trans (b50.cell (p := ⟨cb, 2, none⟩) hlt4)).trans HI4.out.c2
          have z6 := (hf9 6).trans (HI4.out.zz 6)
          have z1 := (hf9 1).trans (HI4.out.zz 1)
          have z2 := (hf9 2).trans (HI4.out.zz 2)
          clear hk9 hf9
          refine hK.out _ _ S9 (fun hHeld => ?_)
          clear hK K
          try simp only [Act.put, List.setIfInBounds_toArray, List.set_cons_zero, List.set_cons_succ]
          refine take1 (i := 25) (d := some 77) (v := ?_) (by kernel_rfl) (by kernel_rfl) (by kernel_rfl) (by kernel_rfl) (fun _ _ _ h => h) ?_ hHeld ?_
          rotate_left
          · (intro o ho; simp only [List.getElem?_toArray, List.getElem?_cons_succ, List.getElem?_cons_zero, Option.some.injEq] at ho; subst ho; refine Or.inl ⟨by rfl, ?_⟩; intro w hSw; (try dsimp only at hSw); go_simp; try with_reducible rfl)
          try simp only [Act.put, List.setIfInBounds_toArray, List.set_cons_zero, List.set_cons_succ]
          refine take1 (i := 26) (d := some 78) (v := ?_) (by kernel_rfl) (by kernel_rfl) (by kernel_rfl) (by kernel_rfl) (fun _ _ _ h => h) ?_ hHeld ?_
          rotate_left
          · (intro o ho; simp only [List.getElem?_toArray, List.getElem?_cons_succ, List.getElem?_cons_zero, Option.some.injEq] at ho; subst ho; refine Or.inl ⟨by rfl, ?_⟩; intro w hSw; (try dsimp only at hSw); go_simp; try with_reducible rfl)
          try simp only [Act.put, List.setIfInBounds_toArray, List.set_cons_zero, List.set_cons_succ]
          refine call1 (i := 27) (d := none) (by kernel_rfl) (by kernel_rfl) ?_
          intro o ho hod K hK; simp only [List.getElem?_toArray, List.getElem?_cons_succ, List.getElem?_cons_zero, Option.some.injEq] at ho; subst ho
          go_simp
          have d0 : (w9.setCell ⟨cb, 6, none⟩ (.slice y9 m9 c9)).cell? ⟨cb, 0, none⟩ = some (.slice (some ⟨b, 0, none⟩) N c) := (cell_set_ne (by omega)).trans S9.1
          have d1 : (w9.setCell ⟨cb, 6, none⟩ (.slice y9 m9 c9)).cell? ⟨cb, 1, none⟩ = some (.int .i64 (x : Int)) := (cell_set_ne (by omega)).trans S9.2.1
          have d3 : (w9.setCell ⟨cb, 6, none⟩ (.slice y9 m9 c9)).cell? ⟨cb, 3, none⟩ = some (.int .i64 kd) := (cell_set_ne (by omega)).trans S9.2.2
          have d2 : (w9.setCell ⟨cb, 6, none⟩ (.slice y9 m9 c9)).cell? ⟨cb, 2, none⟩ = some (.int .i64 (p : Int)) := (cell_set_ne (by omega)).trans r29
          have y1 : (w9.setCell ⟨cb, 6, none⟩ (.slice y9 m9 c9)).frozen? ⟨cb, 1, none⟩ = false := by rw [World.frozen?_setCell]; exact z1
          have y2 : (w9.setCell ⟨cb, 6, none⟩ (.slice y9 m9 c9)).frozen? ⟨cb, 2, none⟩ = false := by rw [World.frozen?_setCell]; exact z2
          refine hK.out _ _ ⟨d0, d1, d3⟩ (fun hHeld => ?_)
          clear hK K
          try simp only [Act.put, List.setIfInBounds_toArray, List.set_cons_zero, List.set_cons_succ]
          refine wpAnyH_done (by kernel_rfl) ?_ _
          obtain ⟨w10, hw10⟩ : ∃ w10, w9.setCell ⟨cb, 6, none⟩ (.slice y9 m9 c9) = w10 := ⟨_, rfl⟩
          rw [hw10] at HG9 d0 d1 d2 d3 y1 y2 ⊢
          have HPZ : Hid (p < z) := hid (by have := HX.out; omega)
          clear hHeld hw10 hown9 hgr9 hloc9 b50 gg9 S9 r69 r29 z6 z1 z2 RW b5 o5 S5 r6 kc
          clear i0 i1 i2 i3 i4 i5 i6 i7 hpc hyc hxc hzy hyx h1 h3 h4 h14 h34 h64 q0 q2 q03 hd hN wxy wyz hVb hg3' HCR HC HFi HEQ HS3 HC3 HB3 HCP HS HFG HI HH hl4 hat hle n3 hc1 hc2 hn hfv d0 d3
          go_wp2_with fail
          go_ret
          exact .inr ⟨rfl, z, _, _, HPZ.out, HG9.out.1, HG9.out.2⟩
    · have HEQ : Hid (∀ q2, Calls Tryd.prog 46 #[.slice (some ⟨g3, 0, none⟩) 4 cp3, .slice (some ⟨b, y, none⟩) 4 q2] w3 fun e w' => e = .returned (.bool false) ∧ w' = w3) := hid (fun q2 => by
        rcases HS3.out with h0 | ⟨b', off', e, hb', hc'⟩
        · omega
        injection e with e; injection e with e1 e2 _
        subst e1 e2
        exact bytesEqC g3 0 b y 4 cp3 q2 (gz (sum4 V)) (shF F y) false w3 (gz_byte (fun v hv => by simp [sum4] at hv; omega)) (shF_byt hF y) hc' (fun i hi => HC3.out (y + i) (by have := HX.out; omega)) ⟨fun h => absurd (sum_iff.1 h) hok, fun h => by simp at h⟩)
      have HS : Hid (firstF (shF F p) (N - p) = (5, 0)) := hid ((HFi.out _).2 (by
        have hX := HX.out
        rw [if_neg (by omega), if_neg (by rw [HV.out, sumOk_sh, show p + (at' + ln) = y by omega]; exact hok)]))
      have HI3 := hid (HI.out.below HB3.out)
      go_wp2_with fail
      refine (HEQ.out _).mono ?_
      rintro e w4 ⟨rfl, rfl⟩
      go_wp2_with fail
      refine (failC cb 5 _ _ HI3.out.c5 (HI3.out.zz 5)).mono ?_
      rintro e w5 ⟨rfl, rfl⟩
      have H := hid (HI3.out.fail (x := 5) HS.out)
      go_wp2_with fail
      go_ret
      exact .inl ⟨rfl, H.out⟩
end Go.Proofs.YthkppnmnjboiaaaDoor
