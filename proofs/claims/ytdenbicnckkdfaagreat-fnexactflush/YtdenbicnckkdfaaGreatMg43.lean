import Derived.Test.YtdenbicnckkdfaaGreatMg42
import Derived.Test.YtdenbicnckkdfaaGreatMg39
namespace Go.Proofs.YtdenbicnckkdfaaGreat
open Go.ChangeShapes Go.WideShapes Go.ChangeAt Go.RowKit Go.Deep
set_option linter.unusedVariables false
set_option linter.unusedSimpArgs false

theorem SOw.same {w w' : World} {lo hi : Nat} {a x : Option Addr} {d : Nat} {S : Sx} (h : SOw w lo hi a x d S) (hs : w.heap.size ≤ w'.heap.size) (hq : ∀ q, lo ≤ q → q < hi → w'.heap[q]? = w.heap[q]?) : SOw w' lo hi a x d S := by
  refine ⟨?_, ?_, h.lv.imp id (fun ⟨b, P, Q, G, e, hw, hI⟩ => ⟨b, P, Q, G, e, hw, fun k0 => (hI k0).zero hw hq⟩), ?_, h.hl.1, Nat.le_trans h.hl.2 hs⟩
  · rcases h.lv with h0 | ⟨b, P, Q, G, e, hw, hI⟩
    · exact .inl h0
    · have I := hI 0
      rcases h.lf with h0 | ⟨b', off, e', hb, hc⟩
      · exact .inl h0
      · rw [e] at e'
        have e1 : b = b' := congrArg Addr.block (Option.some.inj e')
        have e2 : 0 = off := congrArg Addr.off (Option.some.inj e')
        have eb : w'.heap[b]? = w.heap[b]? := hq b hw.b1 hw.b2
        have q1 : ∀ j, w'.cell? ⟨b, j, none⟩ = w.cell? ⟨b, j, none⟩ := fun j => World.cell?_of_block (a := ⟨b, j, none⟩) eb
        rw [← e1, ← e2] at hc
        refine .inr ⟨b, 0, e, by rw [e1]; omega, fun i hi' => ?_⟩
        obtain ⟨pa, pc, c0, hss, c1, c2, c3, c4⟩ := hc i hi'
        refine ⟨pa, pc, by rw [q1]; exact c0, ?_, by rw [q1]; exact c1, by rw [q1]; exact c2, by rw [q1]; exact c3, by rw [q1]; exact c4⟩
        rcases hss with h0 | ⟨g, o, e3, hg, hcc⟩
        · exact .inl h0
        · by_cases hz : (gL S.l i).p.length = 0
          · exact .inl hz
          · have hwi := hw.g1 i hi' (by omega)
            have c0' := I.pth i hi'
            rw [Nat.zero_add] at c0
            rw [c0] at c0'
            have e4 : pa = P i := by injection (Option.some.inj c0')
            rw [hwi.1, e3] at e4
            have e5 : g = G i := congrArg Addr.block (Option.some.inj e4)
            have eg : w'.heap[g]? = w.heap[g]? := by rw [e5]; exact hq _ hwi.2.2.1 hwi.2.2.2
            exact .inr ⟨g, o, e3, by omega, fun t ht => (World.cell?_of_block (a := ⟨g, _, none⟩) eg).trans (hcc t ht)⟩
  · rcases h.ro with h0 | ⟨g, ys, e, hg, ho⟩
    · exact .inl h0
    · have eg := hq g (ho.lt g rfl).1 hg
      exact h.rn.same hs (fun y hy => by rw [e] at hy; have := Option.some.inj hy; rw [← this]; exact eg)
  · rcases h.ro with h0 | ⟨g, ys, e, hg, ho⟩
    · exact .inl h0
    · exact .inr ⟨g, ys, e, hg, own_at5 ho fun q hq' => by
        have e1 : g = q := by simpa [Value.ownBlock] using hq'
        rw [← e1]; exact hq g (ho.lt g rfl).1 hg⟩
theorem SOw.below {w w' : World} {lo hi : Nat} {a x : Option Addr} {d : Nat} {S : Sx} (h : SOw w lo hi a x d S) (hb : Below w.heap.size w w') : SOw w' lo hi a x d S :=
  h.same hb.size (fun q _ h2 => hb.block q (Nat.lt_of_lt_of_le h2 h.hl.2))
theorem SOw.set {w : World} {lo hi : Nat} {a x : Option Addr} {d : Nat} {S : Sx} (h : SOw w lo hi a x d S) (q : Addr) (u : Value) (hq : q.block < lo ∨ hi ≤ q.block) : SOw (w.setCell q u) lo hi a x d S :=
  h.same (by simp [World.setCell]) (fun p h1 h2 => Below.heap_setCell _ _ _ _ (by omega))
theorem SOw.at {w : World} {lo hi : Nat} {a x : Option Addr} {d : Nat} {S : Sx} (h : SOw w lo hi a x d S) : SAt w a x S := ⟨h.lf, h.rn⟩
theorem SOw.mt (w : World) (S : Sx) (hl : S.l.length = 0) (hn : S.n = 0) (lo hi : Nat) (h : lo ≤ hi ∧ hi ≤ w.heap.size) (a x : Option Addr) (d : Nat) : SOw w lo hi a x d S :=
  ⟨.inl hl, .inl hn, .inl hl, .inl hn, h⟩
theorem SOw.wide {w : World} {lo hi lo' hi' : Nat} {a x : Option Addr} {d : Nat} {S : Sx} (h : SOw w lo hi a x d S) (h1 : lo' ≤ lo) (h2 : hi ≤ hi') (h3 : hi' ≤ w.heap.size) : SOw w lo' hi' a x d S :=
  ⟨h.lf, h.rn, h.lv.imp id (fun ⟨b, P, Q, G, e, hw, hI⟩ => ⟨b, P, Q, G, e, ⟨Nat.le_trans h1 hw.b1, Nat.lt_of_lt_of_le hw.b2 h2, fun i hi h0 => by obtain ⟨e1, e2, e3, e4⟩ := hw.g1 i hi h0; exact ⟨e1, e2, by omega, by omega⟩, hw.sep⟩, fun k0 => by
    have I := hI k0
    exact ⟨Btw.refl _ _ _, I.run, I.wr, I.pth, I.todo, I.done, I.cel⟩⟩), h.ro.imp id (fun ⟨g, ys, e, hg, ho⟩ => ⟨g, ys, e, Nat.lt_of_lt_of_le hg h2, own_weak5 ho h1⟩), by have := h.hl; omega, h3⟩
set_option maxRecDepth 100000 in
set_option maxHeartbeats 2000000 in
theorem copyReplicaC (id : Int) (g k g' k' lo mid hi c d c' d' : Nat) (S S' : Sx) (w : World) (hm : S.Sm) (hm' : S'.Sm) (h : SNw w lo mid g k S) (h' : SNw w mid hi g' k' S') :
    Calls Tryz.prog 21 #[.agg #[.int .i64 id, .slice (some ⟨g, 0, none⟩) S.l.length c, .slice (some ⟨k, 0, none⟩) S.n d, .slice (some ⟨g', 0, none⟩) S'.l.length c', .slice (some ⟨k', 0, none⟩) S'.n d']] w fun e w' => ∃ a ca x dx a' ca' x' dx' m2, e = .returned (.agg #[.int .i64 id, .slice a S.l.length ca, .slice x S.n dx, .slice a' S'.l.length ca', .slice x' S'.n dx']) ∧ SOw w' w.heap.size m2 a x dx S ∧ SOw w' m2 w'.heap.size a' x' dx' S' ∧ Below w.heap.size w w' := by
  obtain ⟨W, hW⟩ : ∃ W, (w.alloc (.cells #[.int .i64 id, .slice (some ⟨g, 0, none⟩) S.l.length c, .slice (some ⟨k, 0, none⟩) S.n d, .slice (some ⟨g', 0, none⟩) S'.l.length c', .slice (some ⟨k', 0, none⟩) S'.n d'] 38)).alloc (.cells #[.int .i64 0, .slice none 0 0, .slice none 0 0, .slice none 0 0, .slice none 0 0] 38) = W := ⟨_, rfl⟩
  have b0 : Below w.heap.size w W := by rw [← hW]; exact below2 _ _ _
  have B0 : Bx5 W w.heap.size (.int .i64 id) (.slice (some ⟨g, 0, none⟩) S.l.length c) (.slice (some ⟨k, 0, none⟩) S.n d) (.slice (some ⟨g', 0, none⟩) S'.l.length c') (.slice (some ⟨k', 0, none⟩) S'.n d') := by rw [← hW]; exact (Bx5.new _ _ _ _ _ _ _).up _
  have F0 : Bx5 W (w.heap.size + 1) (.int .i64 0) (.slice none 0 0) (.slice none 0 0) (.slice none 0 0) (.slice none 0 0) := by
    rw [← hW]
    have := Bx5.new (w.alloc (.cells #[.int .i64 id, .slice (some ⟨g, 0, none⟩) S.l.length c, .slice (some ⟨k, 0, none⟩) S.n d, .slice (some ⟨g', 0, none⟩) S'.l.length c', .slice (some ⟨k', 0, none⟩) S'.n d'] 38)) (.int .i64 0) (.slice none 0 0) (.slice none 0 0) (.slice none 0 0) (.slice none 0 0) 38
    simpa using this
  have HC1 : Hid (∀ w1, Below w.heap.size w w1 → Calls Tryz.prog 40 #[.agg #[.slice (some ⟨g, 0, none⟩) S.l.length c, .slice (some ⟨k, 0, none⟩) S.n d]] w1 fun e w' => ∃ a c' x d', e = .returned (.agg #[.slice a S.l.length c', .slice x S.n d']) ∧ SOw w' w1.heap.size w'.heap.size a x d' S ∧ Below w1.heap.size w1 w') := hid (fun w1 hb => copyStateC g k lo mid c d S w1 hm (h.below hb))
  have HC2 : Hid (∀ w1, Below w.heap.size w w1 → Calls Tryz.prog 40 #[.agg #[.slice (some ⟨g', 0, none⟩) S'.l.length c', .slice (some ⟨k', 0, none⟩) S'.n d']] w1 fun e w' => ∃ a c' x d', e = .returned (.agg #[.slice a S'.l.length c', .slice x S'.n d']) ∧ SOw w' w1.heap.size w'.heap.size a x d' S' ∧ Below w1.heap.size w1 w') := hid (fun w1 hb => copyStateC g' k' mid hi c' d' S' w1 hm' (h'.below hb))
  have HB0 := hid b0
  have HX := hid B0
  have HF := hid F0
  have q0 := B0.c0
  have q1 := B0.c1
  have q2 := B0.c2
  have q3 := B0.c3
  have q4 := B0.c4
  clear h h' b0 B0 F0
  go_enter Tryz.func21, Tryz.ntmps21
  go_wp2_with fail
  try rw [hW]
  clear hW
  have HCS : Hid (∀ w', Below w.heap.size w w' → Bx5 w' w.heap.size (.int .i64 id) (.slice (some ⟨g, 0, none⟩) S.l.length c) (.slice (some ⟨k, 0, none⟩) S.n d) (.slice (some ⟨g', 0, none⟩) S'.l.length c') (.slice (some ⟨k', 0, none⟩) S'.n d') → (Below w.heap.size w w' ∧ w'.cell? ⟨w.heap.size, 0, none⟩ = some (.int .i64 id) ∧ w'.cell? ⟨w.heap.size, 1, none⟩ = some (.slice (some ⟨g, 0, none⟩) S.l.length c) ∧ w'.cell? ⟨w.heap.size, 2, none⟩ = some (.slice (some ⟨k, 0, none⟩) S.n d) ∧ w'.cell? ⟨w.heap.size, 3, none⟩ = some (.slice (some ⟨g', 0, none⟩) S'.l.length c') ∧ w'.cell? ⟨w.heap.size, 4, none⟩ = some (.slice (some ⟨k', 0, none⟩) S'.n d'))) := hid (fun w' hB X => ⟨hB, X.c0, X.c1, X.c2, X.c3, X.c4⟩)
  refine wp_region_held_drew (S := fun w' => Below w.heap.size w w' ∧ w'.cell? ⟨w.heap.size, 0, none⟩ = some (.int .i64 id) ∧ w'.cell? ⟨w.heap.size, 1, none⟩ = some (.slice (some ⟨g, 0, none⟩) S.l.length c) ∧ w'.cell? ⟨w.heap.size, 2, none⟩ = some (.slice (some ⟨k, 0, none⟩) S.n d) ∧ w'.cell? ⟨w.heap.size, 3, none⟩ = some (.slice (some ⟨g', 0, none⟩) S'.l.length c') ∧ w'.cell? ⟨w.heap.size, 4, none⟩ = some (.slice (some ⟨k', 0, none⟩) S'.n d')) (by kernel_rfl) (HCS.out _ HB0.out.drew (HX.out.below (Below.refl _ _).drew HX.out.lt)) (fun hHeld => ?_)
  refine take1 (i := 0) (d := some 3) (v := ?_) (by kernel_rfl) (by kernel_rfl) (by kernel_rfl) (by kernel_rfl) (fun _ _ _ h => h) ?_ hHeld ?_
  rotate_left
  · (intro o ho; simp only [List.getElem?_toArray, List.getElem?_cons_succ, List.getElem?_cons_zero, Option.some.injEq] at ho; subst ho; refine Or.inl ⟨by rfl, ?_⟩; intro w hSw; (try dsimp only at hSw); go_simp; try with_reducible rfl)
  try simp only [Act.put, List.setIfInBounds_toArray, List.set_cons_zero, List.set_cons_succ]
  refine take1 (i := 1) (d := some 4) (v := ?_) (by kernel_rfl) (by kernel_rfl) (by kernel_rfl) (by kernel_rfl) (fun _ _ _ h => h) ?_ hHeld ?_
  rotate_left
  · (intro o ho; simp only [List.getElem?_toArray, List.getElem?_cons_succ, List.getElem?_cons_zero, Option.some.injEq] at ho; subst ho; refine Or.inl ⟨by rfl, ?_⟩; intro w hSw; (try dsimp only at hSw); go_simp; try with_reducible rfl)
  try simp only [Act.put, List.setIfInBounds_toArray, List.set_cons_zero, List.set_cons_succ]
  refine take1 (i := 2) (d := some 5) (v := ?_) (by kernel_rfl) (by kernel_rfl) (by kernel_rfl) (by kernel_rfl) (fun _ _ _ h => h) ?_ hHeld ?_
  rotate_left
  · (intro o ho; simp only [List.getElem?_toArray, List.getElem?_cons_succ, List.getElem?_cons_zero, Option.some.injEq] at ho; subst ho; refine Or.inl ⟨by rfl, ?_⟩; intro w hSw; (try dsimp only at hSw); go_simp; try with_reducible rfl)
  try simp only [Act.put, List.setIfInBounds_toArray, List.set_cons_zero, List.set_cons_succ]
  refine take1 (i := 3) (d := some 6) (v := ?_) (by kernel_rfl) (by kernel_rfl) (by kernel_rfl) (by kernel_rfl) (fun _ _ _ h => h) ?_ hHeld ?_
  rotate_left
  · (intro o ho; simp only [List.getElem?_toArray, List.getElem?_cons_succ, List.getElem?_cons_zero, Option.some.injEq] at ho; subst ho; refine Or.inl ⟨by rfl, ?_⟩; intro w hSw; (try dsimp only at hSw); go_simp; try with_reducible rfl)
  try simp only [Act.put, List.setIfInBounds_toArray, List.set_cons_zero, List.set_cons_succ]
  refine take1 (i := 5) (d := some 8) (v := ?_) (by kernel_rfl) (by kernel_rfl) (by kernel_rfl) (by kernel_rfl) (fun _ _ _ h => h) ?_ hHeld ?_
  rotate_left
  · (intro o ho; simp only [List.getElem?_toArray, List.getElem?_cons_succ, List.getElem?_cons_zero, Option.some.injEq] at ho; subst ho; refine Or.inl ⟨by rfl, ?_⟩; intro w hSw; (try dsimp only at hSw); go_simp; try with_reducible rfl)
  try simp only [Act.put, List.setIfInBounds_toArray, List.set_cons_zero, List.set_cons_succ]
  refine take1 (i := 6) (d := some 9) (v := ?_) (by kernel_rfl) (by kernel_rfl) (by kernel_rfl) (by kernel_rfl) (fun _ _ _ h => h) ?_ hHeld ?_
  rotate_left
  · (intro o ho; simp only [List.getElem?_toArray, List.getElem?_cons_succ, List.getElem?_cons_zero, Option.some.injEq] at ho; subst ho; refine Or.inl ⟨by rfl, ?_⟩; intro w hSw; (try dsimp only at hSw); go_simp; try with_reducible rfl)
  try simp only [Act.put, List.setIfInBounds_toArray, List.set_cons_zero, List.set_cons_succ]
  refine call1 (i := 4) (d := some 7) (by kernel_rfl) (by kernel_rfl) ?_
  intro o ho hod K hK; simp only [List.getElem?_toArray, List.getElem?_cons_succ, List.getElem?_cons_zero, Option.some.injEq] at ho; subst ho
  go_simp
  refine (HC1.out _ hHeld.1).mono ?_
  rintro e w1 ⟨a, ca, x, dx, rfl, s1, b1⟩
  have b1' : Below W.heap.size W w1 := ⟨b1.os, b1.tape, b1.output, b1.size, b1.block⟩
  have hB1 := keepS HB0.out b1'
  have X1 := HX.out.below b1' HX.out.lt
  have F1 := HF.out.below b1' HF.out.lt
  have s1' : SOw w1 W.heap.size w1.heap.size a x dx S := s1
  refine hK.out _ _ (HCS.out _ hB1 X1) (fun hHeld => ?_)
  clear hK K
  try simp only [Act.put, List.setIfInBounds_toArray, List.set_cons_zero, List.set_cons_succ]
  refine call1 (i := 7) (d := some 10) (by kernel_rfl) (by kernel_rfl) ?_
  intro o ho hod K hK; simp only [List.getElem?_toArray, List.getElem?_cons_succ, List.getElem?_cons_zero, Option.some.injEq] at ho; subst ho
  go_simp
  refine (HC2.out _ hB1).mono ?_
  rintro e w2 ⟨a', ca', x', dx', rfl, s2, b2⟩
  have hB2 := keepS hB1 b2
  have X2 := X1.below b2 X1.lt
  have F2 := F1.below b2 F1.lt
  have s12 := s1'.below b2
  refine hK.out _ _ (HCS.out _ hB2 X2) (fun hHeld => ?_)
  clear hK K
  try simp only [Act.put, List.setIfInBounds_toArray, List.set_cons_zero, List.set_cons_succ]
  refine take1 (i := 8) (d := some 11) (v := ?_) (by kernel_rfl) (by kernel_rfl) (by kernel_rfl) (by kernel_rfl) (fun _ _ _ h => h) ?_ hHeld ?_
  rotate_left
  · (intro o ho; simp only [List.getElem?_toArray, List.getElem?_cons_succ, List.getElem?_cons_zero, Option.some.injEq] at ho; subst ho; refine Or.inl ⟨by rfl, ?_⟩; intro w hSw; (try dsimp only at hSw); go_simp; try with_reducible rfl)
  try simp only [Act.put, List.setIfInBounds_toArray, List.set_cons_zero, List.set_cons_succ]
  have f0 := F2.c0
  have f1 := F2.c1
  have f2 := F2.c2
  have f3 := F2.c3
  have f4 := F2.c4
  have ff := F2.f
  refine call1 (i := 9) (d := none) (by kernel_rfl) (by kernel_rfl) ?_
  intro o ho hod K hK; simp only [List.getElem?_toArray, List.getElem?_cons_succ, List.getElem?_cons_zero, Option.some.injEq] at ho; subst ho
  go_simp
  have hzW : w.heap.size + 1 < W.heap.size := HF.out.lt
  have hz1 : W.heap.size ≤ w1.heap.size := b1'.size
  have hz2 : w1.heap.size ≤ w2.heap.size := b2.size
  refine hK.out _ _ (HCS.out _ ((((((hB2.setCell (by simp) _).setCell (by simp) _).setCell (by simp) _).setCell (by simp) _).setCell (by simp) _)) (((((X2.setAt _ _ (by simp)).setAt _ _ (by simp)).setAt _ _ (by simp)).setAt _ _ (by simp)).setAt _ _ (by simp))) (fun hHeld => ?_)
  clear hK K
  try simp only [Act.put, List.setIfInBounds_toArray, List.set_cons_zero, List.set_cons_succ]
  refine wpAnyH_done (by kernel_rfl) ?_ _
  go_wp2_with fail
  refine bodyPost_ret (v := .agg #[.int .i64 id, .slice a S.l.length ca, .slice x S.n dx, .slice a' S'.l.length ca', .slice x' S'.n dx']) (by simp [results, Tryz.results21, go_sem, f0, f1, f2, f3, f4]) rfl ⟨a, ca, x, dx, a', ca', x', dx', rfl, w1.heap.size, ?_, ?_, ?_⟩
  · refine SOw.wide (lo := W.heap.size) (hi := w1.heap.size) ?_ (by omega) (Nat.le_refl _) (by simp [World.setCell]; exact hz2)
    repeat (refine SOw.set ?_ _ _ (.inl (by simp; omega)))
    exact s12
  · refine SOw.wide (lo := w1.heap.size) (hi := w2.heap.size) ?_ (Nat.le_refl _) (by simp [World.setCell]) (Nat.le_refl _)
    repeat (refine SOw.set ?_ _ _ (.inl (by simp; omega)))
    exact s2
  · repeat (refine Below.setCell ?_ (by simp) _)
    exact hB2
end Go.Proofs.YtdenbicnckkdfaaGreat

namespace Go.Proofs.YtdenbicnckkdfaaGreat
open Go.ChangeShapes Go.WideShapes Go.ChangeAt Go.RowKit Go.Deep
set_option linter.unusedVariables false
set_option linter.unusedSimpArgs false

def mtB (S : Sx) : Bool := decide (S.l.length = 0) && decide (S.n = 0)
set_option maxHeartbeats 1000000 in
theorem eqFuncNil (a : Option Addr) (n c : Nat) (fv : Value) (w : World) (hn : n ≤ 1048576) :
    Calls Tryz.prog 43 #[.slice a n c, .slice none 0 0, fv] w fun e w' => e = .returned (.bool (decide (n = 0))) ∧ w' = w := by
  by_cases h0 : n = 0
  · subst h0
    go_enter Tryz.func43, Tryz.ntmps43
    go_wp2_with fail
    refine wp_loop_rounds 1 ?_; rw [rounds_succ]; go_wp2_with fail
    go_ret
    exact ⟨rfl, rfl⟩
  · have d1 : ((n : Int) != 0) = true := by simp; omega
    have d2 : ((n : Int) == 0) = false := by simp; omega
    rw [show decide (n = 0) = false by simp; omega]
    go_enter Tryz.func43, Tryz.ntmps43
    go_wp2_with fail
    go_ret
    exact ⟨rfl, rfl⟩
set_option maxHeartbeats 1000000 in
theorem eqRunNil (a : Option Addr) (n c : Nat) (w : World) (hn : n ≤ 1048576) :
    Calls Tryz.prog 45 #[.slice a n c, .slice none 0 0] w fun e w' => e = .returned (.bool (decide (n = 0))) ∧ w' = w := by
  by_cases h0 : n = 0
  · subst h0
    go_enter Tryz.func45, Tryz.ntmps45
    go_wp2_with fail
    refine wp_loop_rounds 1 ?_; rw [rounds_succ]; go_wp2_with fail
    go_ret
    exact ⟨rfl, rfl⟩
  · have d1 : ((n : Int) != 0) = true := by simp; omega
    have d2 : ((n : Int) == 0) = false := by simp; omega
    rw [show decide (n = 0) = false by simp; omega]
    go_enter Tryz.func45, Tryz.ntmps45
    go_wp2_with fail
    go_ret
    exact ⟨rfl, rfl⟩
set_option maxRecDepth 100000 in
set_option maxHeartbeats 1000000 in
theorem sameStateC (a x : Option Addr) (c d : Nat) (S : Sx) (w : World) (hm : S.Sm) :
    Calls Tryz.prog 23 #[.agg #[.slice a S.l.length c, .slice x S.n d], .agg #[.slice none 0 0, .slice none 0 0]] w fun e w' => e = .returned (.bool (mtB S)) ∧ Below w.heap.size w w' := by
  obtain ⟨W, hW⟩ : ∃ W, (w.alloc (.cells #[.slice a S.l.length c, .slice x S.n d] 36)).alloc (.cells #[.slice none 0 0, .slice none 0 0] 36) = W := ⟨_, rfl⟩
  have b0 : Below w.heap.size w W := by rw [← hW]; exact below2 _ _ _
  have k0 : W.cell? ⟨w.heap.size, 0, none⟩ = some (.slice a S.l.length c) := by rw [← hW]; simp
  have k1 : W.cell? ⟨w.heap.size, 1, none⟩ = some (.slice x S.n d) := by rw [← hW]; simp
  have l0 : W.cell? ⟨w.heap.size + 1, 0, none⟩ = some (.slice none 0 0) := by rw [← hW]; simp
  have l1 : W.cell? ⟨w.heap.size + 1, 1, none⟩ = some (.slice none 0 0) := by rw [← hW]; simp
  have HB0 := hid b0
  have HL : Hid (∀ fv, Calls Tryz.prog 43 #[.slice a S.l.length c, .slice none 0 0, fv] W fun e w' => e = .returned (.bool (decide (S.l.length = 0))) ∧ w' = W) := hid (fun fv => eqFuncNil a S.l.length c fv W hm.l1)
  have HR := hid (eqRunNil x S.n d W hm.n1)
  have HE : Hid (mtB S = (decide (S.l.length = 0) && decide (S.n = 0))) := hid rfl
  obtain ⟨B, hB⟩ : ∃ B, mtB S = B := ⟨_, rfl⟩
  obtain ⟨B1, hB1⟩ : ∃ B1, decide (S.l.length = 0) = B1 := ⟨_, rfl⟩
  obtain ⟨B2, hB2⟩ : ∃ B2, decide (S.n = 0) = B2 := ⟨_, rfl⟩
  rw [hB, hB1, hB2] at HE
  rw [hB1] at HL
  rw [hB2] at HR
  rw [hB]
  clear b0 hB hB1 hB2
  go_enter Tryz.func23, Tryz.ntmps23
  go_wp2_with fail
  try rw [hW]
  clear hW
  refine (HL.out _).mono ?_
  rintro e w1 ⟨rfl, rfl⟩
  cases B1 with
  | false =>
    have HF : Hid (B = false) := hid (by rw [HE.out]; rfl)
    go_wp2_with fail
    go_ret
    exact ⟨by rw [HF.out]; rfl, HB0.out⟩
  | true =>
    have HF : Hid (B = B2) := hid (by rw [HE.out]; rfl)
    go_wp2_with fail
    refine HR.out.mono ?_
    rintro e w2 ⟨rfl, rfl⟩
    go_wp2_with fail
    go_ret
    exact ⟨by rw [HF.out]; rfl, HB0.out⟩
set_option maxRecDepth 100000 in
set_option maxHeartbeats 1000000 in
theorem l6EmptyC (w : World) :
    Calls Tryz.prog 17 #[] w fun e w' => ∃ g k, e = .returned (.agg #[.slice (some ⟨g, 0, none⟩) 0 0, .slice (some ⟨k, 0, none⟩) 0 0]) ∧ Below w.heap.size w w' := by
  have P : Bx2 (((w.alloc (.cells #[.slice (some ⟨w.heap.size + 1, 0, none⟩) 0 0, .slice (some ⟨w.heap.size + 1 + 1, 0, none⟩) 0 0] 36)).alloc (.cells #[] 69)).alloc (.cells #[] 71)) w.heap.size (.slice (some ⟨w.heap.size + 1, 0, none⟩) 0 0) (.slice (some ⟨w.heap.size + 1 + 1, 0, none⟩) 0 0) := ((Bx2.made _ _ _ _).below ((Below.refl _ _).alloc (Nat.le_refl _) _) (by simp)).below ((Below.refl _ _).alloc (Nat.le_refl _) _) (by simp; omega)
  have HP := hid P
  clear P
  go_enter Tryz.func17, Tryz.ntmps17
  go_wp2_with fail
  have p0 := HP.out.c0
  have p1 := HP.out.c1
  refine bodyPost_ret (v := .agg #[.slice (some ⟨w.heap.size + 1, 0, none⟩) 0 0, .slice (some ⟨w.heap.size + 1 + 1, 0, none⟩) 0 0]) (by simp [results, Tryz.results17, go_sem, p0, p1]) rfl ⟨_, _, rfl, ?_⟩
  exact (((Below.refl _ _).alloc (Nat.le_refl _) _).alloc (by simp) _).alloc (by simp; omega) _
set_option maxRecDepth 100000 in
set_option maxHeartbeats 1000000 in
theorem l3EqualC (a x b y : Option Addr) (c d : Nat) (S : Sx) (w : World) (hm : S.Sm) :
    Calls Tryz.prog 16 #[.agg #[.slice a S.l.length c, .slice x S.n d], .agg #[.slice b 0 0, .slice y 0 0]] w fun e w' => e = .returned (.bool (mtB S)) ∧ Below w.heap.size w w' := by
  obtain ⟨W, hW⟩ : ∃ W, (w.alloc (.cells #[.slice a S.l.length c, .slice x S.n d] 36)).alloc (.cells #[.slice b 0 0, .slice y 0 0] 36) = W := ⟨_, rfl⟩
  have b0 : Below w.heap.size w W := by rw [← hW]; exact below2 _ _ _
  have k0 : W.cell? ⟨w.heap.size, 0, none⟩ = some (.slice a S.l.length c) := by rw [← hW]; simp
  have k1 : W.cell? ⟨w.heap.size, 1, none⟩ = some (.slice x S.n d) := by rw [← hW]; simp
  have l0 : W.cell? ⟨w.heap.size + 1, 0, none⟩ = some (.slice b 0 0) := by rw [← hW]; simp
  have l1 : W.cell? ⟨w.heap.size + 1, 1, none⟩ = some (.slice y 0 0) := by rw [← hW]; simp
  have HB0 := hid b0
  have hl1 := hm.l1
  have hn1 := hm.n1
  have HE : Hid (mtB S = (decide (S.l.length = 0) && decide (S.n = 0))) := hid rfl
  obtain ⟨B, hB⟩ : ∃ B, mtB S = B := ⟨_, rfl⟩
  rw [hB] at HE ⊢
  obtain ⟨n1, hn1'⟩ : ∃ n1, S.l.length = n1 := ⟨_, rfl⟩
  obtain ⟨n2, hn2'⟩ : ∃ n2, S.n = n2 := ⟨_, rfl⟩
  rw [hn1'] at HE hW k0 hl1
  rw [hn2'] at HE hW k1 hn1
  rw [hn1', hn2']
  clear b0 hB hn1' hn2'
  by_cases z1 : n1 = 0
  · by_cases z2 : n2 = 0
    · have HF : Hid (B = true) := hid (by rw [HE.out, z1, z2]; rfl)
      clear HE
      subst z1 z2
      go_enter Tryz.func16, Tryz.ntmps16
      go_wp2_with fail
      try rw [hW]
      clear hW
      refine wp_loop_rounds 1 ?_; rw [rounds_succ]; go_wp2_with fail
      refine wp_loop_rounds 1 ?_; rw [rounds_succ]; go_wp2_with fail
      go_ret
      exact ⟨by rw [HF.out]; rfl, HB0.out⟩
    · have HF : Hid (B = false) := hid (by rw [HE.out, show decide (n2 = 0) = false by simp; omega]; simp)
      have d1 : ((n2 : Int) != 0) = true := by simp; omega
      have d2 : ((n2 : Int) == 0) = false := by simp; omega
      clear HE
      subst z1
      go_enter Tryz.func16, Tryz.ntmps16
      go_wp2_with fail
      try rw [hW]
      clear hW
      go_ret
      exact ⟨by rw [HF.out]; rfl, HB0.out⟩
  · have HF : Hid (B = false) := hid (by rw [HE.out, show decide (n1 = 0) = false by simp; omega]; simp)
    have d1 : ((n1 : Int) != 0) = true := by simp; omega
    have d2 : ((n1 : Int) == 0) = false := by simp; omega
    clear HE
    go_enter Tryz.func16, Tryz.ntmps16
    go_wp2_with fail
    try rw [hW]
    clear hW
    go_ret
    exact ⟨by rw [HF.out]; rfl, HB0.out⟩
end Go.Proofs.YtdenbicnckkdfaaGreat
