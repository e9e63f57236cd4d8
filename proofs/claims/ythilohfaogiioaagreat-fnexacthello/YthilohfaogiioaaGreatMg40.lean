import Derived.Test.YthilohfaogiioaaGreatMg39
import Derived.Test.YthilohfaogiioaaGreatMg22
import Derived.Test.YthilohfaogiioaaGreatMg01
namespace Go.Proofs.YthilohfaogiioaaGreat
open Go.ChangeShapes Go.WideShapes Go.ChangeAt Go.RowKit
set_option linter.unusedVariables false
set_option linter.unusedSimpArgs false

set_option maxHeartbeats 1000000 in
theorem eqFrameO (K : Int) (v v' : Value) (zs : List Int) (B B' : Nat) (w : World) (hl : zs.length ≤ 1000000) (h : Own w B v zs) (h' : Own w B' v' zs) :
    Calls Tryz.prog 13 #[.agg #[.int .i64 K, v], .agg #[.int .i64 K, v']] w fun e w' => e = .returned (.bool true) ∧ Below w.heap.size w w' := by
  obtain ⟨W, hW⟩ : ∃ W, (w.alloc (.cells #[.int .i64 K, v] 45)).alloc (.cells #[.int .i64 K, v'] 45) = W := ⟨_, rfl⟩
  have b0 : Below w.heap.size w W := by rw [← hW]; exact below2 _ _ _
  have k0 : W.cell? ⟨w.heap.size, 0, none⟩ = some (.int .i64 K) := by rw [← hW]; simp
  have k1 : W.cell? ⟨w.heap.size, 1, none⟩ = some v := by rw [← hW]; simp
  have l0 : W.cell? ⟨w.heap.size + 1, 0, none⟩ = some (.int .i64 K) := by rw [← hW]; simp
  have l1 : W.cell? ⟨w.heap.size + 1, 1, none⟩ = some v' := by rw [← hW]; simp
  obtain ⟨va, vc, hv, _⟩ := h.any
  obtain ⟨va', vc', hv', _⟩ := h'.any
  have HE := hid (eqOwn (own_at5 h fun g hg => b0.block g (World.ownsRow.lt h g hg).2) (own_at5 h' fun g hg => b0.block g (World.ownsRow.lt h' g hg).2) (by omega))
  subst hv hv'
  have HB0 := hid b0
  have d1 : (K == K) = true := by simp
  have d2 : (K != K) = false := by simp
  clear h h' b0
  go_enter Tryz.func13, Tryz.ntmps13
  go_wp2_with fail
  try rw [hW]
  clear hW
  refine HE.out.mono ?_
  rintro e w1 ⟨rfl, b1⟩
  have HB1 := hid (keepS HB0.out b1)
  clear b1 HE k0 k1 l0 l1
  go_wp2_with fail
  go_ret
  exact ⟨rfl, HB1.out⟩
theorem markOwnK {w : World} {B : Nat} {v : Value} {zs : List Int} (h : Own w B v zs) (hl : zs.length ≤ 1000000000) (k0 : Nat) (hk0 : k0 ≤ 1000000) :
    Calls Tryz.prog 29 #[v, .int .i64 (k0 : Int)] w fun e w' => e = .returned (.int .i64 ((k0 + zs.length : Nat) : Int)) ∧ Below B w w' ∧ (∃ a cap, v = .slice a zs.length cap ∧ Seg w' a zs.length (mk8 k0)) ∧ ∀ q, some q ≠ v.ownBlock → w'.heap[q]? = w.heap[q]? := by
  by_cases hz : zs = []
  · subst hz
    obtain ⟨a, cap, rfl, s⟩ := h.any
    refine (markB0 a cap k0 w).mono ?_
    rintro e w' ⟨rfl, rfl⟩
    exact ⟨by simp, Below.refl _ _, ⟨a, cap, rfl, .inl rfl⟩, fun _ _ => rfl⟩
  · obtain ⟨g, cap, rfl, _, _, _, _, _, s⟩ := h.shape hz
    refine (markB B g zs.length cap k0 _ w (by omega) (by omega) h).mono ?_
    rintro e w' ⟨rfl, b, z, s, o⟩
    exact ⟨rfl, b, ⟨_, cap, rfl, s⟩, fun q hq => o q (fun e => hq (by rw [e]; rfl))⟩
set_option maxHeartbeats 1000000 in
theorem markFrameO (K : Int) (v : Value) (zs : List Int) (B : Nat) (w : World) (hl : zs.length ≤ 1000000) (hB : B ≤ w.heap.size) (h : Own w B v zs) :
    Calls Tryz.prog 15 #[.agg #[.int .i64 K, v], .int .i64 1] w fun e w' => e = .returned (.int .i64 ((1 + zs.length : Nat) : Int)) ∧ Below B w w' ∧ (∃ a cap, v = .slice a zs.length cap ∧ Seg w' a zs.length (mk8 1)) ∧ ∀ q, q < w.heap.size → some q ≠ v.ownBlock → w'.heap[q]? = w.heap[q]? := by
  obtain ⟨W, hW⟩ : ∃ W, w.alloc (.cells #[.int .i64 K, v] 45) = W := ⟨_, rfl⟩
  have b0 : Below w.heap.size w W := by rw [← hW]; exact (Below.refl _ _).alloc (Nat.le_refl _) _
  have k0 : W.cell? ⟨w.heap.size, 0, none⟩ = some (.int .i64 K) := by rw [← hW]; simp
  have k1 : W.cell? ⟨w.heap.size, 1, none⟩ = some v := by rw [← hW]; simp
  obtain ⟨va, vc, hv, _⟩ := h.any
  have HBW := hid b0
  have HM := hid (markOwnK (own_at5 h fun g hg => b0.block g (World.ownsRow.lt h g hg).2) (by omega) 1 (by omega))
  have HB0 := hid (b0.mono hB)
  clear h b0
  subst hv
  go_enter Tryz.func15, Tryz.ntmps15
  go_wp2_with fail
  try rw [hW]
  clear hW
  refine HM.out.mono ?_
  rintro e w1 ⟨rfl, b1, hs, hq⟩
  have HQ := hid hq
  have HB1 := hid (HB0.out.trans b1)
  have HS := hid hs
  obtain ⟨m, hm⟩ : ∃ m, 1 + zs.length = m := ⟨_, rfl⟩
  have HE := hid hm
  rw [hm]
  clear b1 hs hq HM k0 k1 hm
  go_wp2_with fail
  go_ret
  exact ⟨by rw [HE.out]; rfl, HB1.out, HS.out, fun q h1 h2 => (HQ.out q h2).trans (HBW.out.block q h1)⟩
set_option maxHeartbeats 1000000 in
theorem heldFrameO (K : Int) (a : Option Addr) (n cap : Nat) (w : World) (hl : n ≤ 1000000) (h : Seg w a n (mk8 1)) :
    Calls Tryz.prog 16 #[.agg #[.int .i64 K, .slice a n cap], .int .i64 1] w fun e w' => e = .returned (.int .i64 ((1 + n : Nat) : Int)) ∧ Below w.heap.size w w' := by
  obtain ⟨W, hW⟩ : ∃ W, w.alloc (.cells #[.int .i64 K, .slice a n cap] 45) = W := ⟨_, rfl⟩
  have b0 : Below w.heap.size w W := by rw [← hW]; exact (Below.refl _ _).alloc (Nat.le_refl _) _
  have k0 : W.cell? ⟨w.heap.size, 0, none⟩ = some (.int .i64 K) := by rw [← hW]; simp
  have k1 : W.cell? ⟨w.heap.size, 1, none⟩ = some (.slice a n cap) := by rw [← hW]; simp
  have HM := hid (heldB a n cap 1 W (by omega) (by omega) (h.below b0))
  have HB0 := hid b0
  clear h b0
  go_enter Tryz.func16, Tryz.ntmps16
  go_wp2_with fail
  try rw [hW]
  clear hW
  refine HM.out.mono ?_
  rintro e w1 ⟨rfl, rfl⟩
  obtain ⟨m, hm⟩ : ∃ m, 1 + n = m := ⟨_, rfl⟩
  have HE := hid hm
  rw [hm]
  have dm : decide ((m : Int) < 0) = false := by simp
  clear HM k0 k1 hm
  go_wp2_with fail
  go_ret
  exact ⟨by rw [HE.out]; rfl, HB0.out⟩
theorem Btw.wide {lo hi lo' hi' : Nat} {w w' : World} (h : Btw lo hi w w') (h1 : lo' ≤ lo) (h2 : hi ≤ hi') : Btw lo' hi' w w' := ⟨h.os, h.tape, h.output, h.size, fun g hg ho => h.block g hg (by omega)⟩
theorem SNw.btw {w w' : World} {lo hi lo' hi' g k : Nat} {S : Sx} (h : SNw w lo hi g k S) (hb : Btw lo' hi' w w') (hd : hi' ≤ lo) : (∃ ys, w'.ownsRow lo 132 3 (.slice (some ⟨k, 0, none⟩) S.n S.n) S.n ys) ∧ LMk w' lo hi g S.l :=
  ⟨by obtain ⟨ys, ho⟩ := h.ro; exact ⟨ys, own_at5 ho fun q hq => hb.block q (ho.lt q hq).2 (.inr (by have := (ho.lt q hq).1; omega))⟩, h.lm.same fun q h1 h2 => hb.block q (Nat.lt_of_lt_of_le h2 h.hl) (.inr (by omega))⟩
set_option maxRecDepth 100000 in
set_option maxHeartbeats 1000000 in
theorem markReplicaC (id : Int) (g k g' k' lo mid hi : Nat) (S S' : Sx) (w : World) (hm : S.Sm) (hm' : S'.Sm) (h : SNw w lo mid g k S) (h' : SNw w mid hi g' k' S') :
    Calls Tryz.prog 14 #[.agg #[.int .i64 id, .slice (some ⟨g, 0, none⟩) S.l.length S.l.length, .slice (some ⟨k, 0, none⟩) S.n S.n, .slice (some ⟨g', 0, none⟩) S'.l.length S'.l.length, .slice (some ⟨k', 0, none⟩) S'.n S'.n], .int .i64 1] w fun e w' => (∃ k1 : Nat, e = .returned (.int .i64 (k1 : Int))) ∧ Btw lo hi w w' := by
  obtain ⟨W, hW⟩ : ∃ W, w.alloc (.cells #[.int .i64 id, .slice (some ⟨g, 0, none⟩) S.l.length S.l.length, .slice (some ⟨k, 0, none⟩) S.n S.n, .slice (some ⟨g', 0, none⟩) S'.l.length S'.l.length, .slice (some ⟨k', 0, none⟩) S'.n S'.n] 39) = W := ⟨_, rfl⟩
  have b0 : Below w.heap.size w W := by rw [← hW]; exact (Below.refl _ _).alloc (Nat.le_refl _) _
  have B0 : Bx5 W w.heap.size (.int .i64 id) (.slice (some ⟨g, 0, none⟩) S.l.length S.l.length) (.slice (some ⟨k, 0, none⟩) S.n S.n) (.slice (some ⟨g', 0, none⟩) S'.l.length S'.l.length) (.slice (some ⟨k', 0, none⟩) S'.n S'.n) := by rw [← hW]; exact Bx5.new _ _ _ _ _ _ _
  have N1 := h.below b0
  have N2 := h'.below b0
  have HLM : Hid (lo ≤ mid ∧ mid ≤ hi ∧ hi ≤ w.heap.size) := hid ⟨by have := h.k1; have := h.k2; omega, by have := h'.k1; have := h'.k2; omega, h'.hl⟩
  obtain ⟨ys, ho⟩ := N1.ro
  have HM1 := hid (markStateC lo mid g k S.n 1 S.l ys W (by omega) hm.l1 hm.p1 hm.n1 N1.hl ⟨N1.k1, N1.k2⟩ N1.lm ho)
  have HN2 := hid N2
  have HB0 := hid (Btw.below (lo := lo) (hi := hi) b0)
  have HX := hid B0
  have q1 := B0.c1
  have q2 := B0.c2
  clear h h' b0 B0 N1 N2 ho
  go_enter Tryz.func14, Tryz.ntmps14
  go_wp2_with fail
  try rw [hW]
  clear hW
  refine HM1.out.mono ?_
  rintro e w1 ⟨⟨k1, hk1, rfl⟩, t1⟩
  have e1 := t1.block w.heap.size HX.out.lt (.inr (by have := HLM.out; omega))
  have r3 := (World.cell?_of_block (a := ⟨w.heap.size, 3, none⟩) e1).trans HX.out.c3
  have r4 := (World.cell?_of_block (a := ⟨w.heap.size, 4, none⟩) e1).trans HX.out.c4
  obtain ⟨⟨ys2, ho2⟩, lm2⟩ := HN2.out.btw t1 (Nat.le_refl _)
  have HM2 := hid (markStateC mid hi g' k' S'.n k1 S'.l ys2 w1 (by omega) hm'.l1 hm'.p1 hm'.n1 (Nat.le_trans HN2.out.hl t1.size) ⟨HN2.out.k1, HN2.out.k2⟩ lm2 ho2)
  have HB1 := hid (HB0.out.trans (t1.wide (Nat.le_refl _) HLM.out.2.1))
  clear t1 e1 ho2 lm2 HM1 q1 q2 HX HN2
  go_wp2_with fail
  refine HM2.out.mono ?_
  rintro e w2 ⟨⟨k2, hk2, rfl⟩, t2⟩
  have HB2 := hid (HB1.out.trans (t2.wide HLM.out.1 (Nat.le_refl _)))
  clear t2 HM2 r3 r4
  go_wp2_with fail
  go_ret
  exact ⟨⟨k2, rfl⟩, HB2.out⟩
theorem Own.cellset {w : World} {B : Nat} {v : Value} {zs : List Int} (h : Own w B v zs) (q : Addr) (u : Value) (hq : q.block < B) : Own (w.setCell q u) B v zs :=
  own_at5 h fun g hg => Below.heap_setCell _ _ _ _ (by have := (World.ownsRow.lt h g hg).1; omega)

noncomputable def whZ (id : Int) (S S' : Sx) : Int × List Int × Bool := if rpB id S S' = true then (2, (sxZ S).1, true) else (0, [], false)
theorem whZ_len (id : Int) (S S' : Sx) : (whZ id S S').2.1.length ≤ 4000 := by
  unfold whZ
  split
  · exact sxZ_len S
  · simp
set_option maxRecDepth 100000 in
set_option maxHeartbeats 2000000 in
theorem specWhole (id : Int) (a x a' x' : Option Addr) (c d c' d' : Nat) (S S' : Sx) (w : World) (hc : S.l.length ≤ c) (hcm : c ≤ 9223372036854775807) (hc' : S'.l.length ≤ c') (hcm' : c' ≤ 9223372036854775807) (hm : S.Sm) (hm' : S'.Sm) (h : LCap w a S.l) (k : RSeg w x S.n S.R S.F S.T) (h' : LCap w a' S'.l) (k' : RSeg w x' S'.n S'.R S'.F S'.T) :
    Calls Tryz.prog 11 #[.agg #[.int .i64 id, .slice a S.l.length c, .slice x S.n d, .slice a' S'.l.length c', .slice x' S'.n d']] w fun e w' => ∃ K v zs B, e = .returned (.tuple #[.agg #[.int .i64 K, v], .bool B]) ∧ whZ id S S' = (K, zs, B) ∧ Own w' w.heap.size v zs ∧ Below w.heap.size w w' := by
  obtain ⟨W, hW⟩ : ∃ W, (w.alloc (.cells #[.int .i64 id, .slice a S.l.length c, .slice x S.n d, .slice a' S'.l.length c', .slice x' S'.n d'] 39)).alloc (.cells #[.int .i64 0, .slice none 0 0] 45) = W := ⟨_, rfl⟩
  have b0 : Below w.heap.size w W := by rw [← hW]; exact below2 _ _ _
  have F0 : Bx2 W (w.heap.size + 1) (.int .i64 0) (.slice none 0 0) := by
    rw [← hW]
    have := Bx2.made (w.alloc (.cells #[.int .i64 id, .slice a S.l.length c, .slice x S.n d, .slice a' S'.l.length c', .slice x' S'.n d'] 39)) (.int .i64 0) (.slice none 0 0) 45
    simpa using this
  have B0 : Bx5 W w.heap.size (.int .i64 id) (.slice a S.l.length c) (.slice x S.n d) (.slice a' S'.l.length c') (.slice x' S'.n d') := by rw [← hW]; exact (Bx5.new _ _ _ _ _ _ _).up _
  have HO := hid (specReplicaOk id a x a' x' c d c' d' S S' W hc hcm hc' hcm' hm hm' (h.below b0) (k.below b0) (h'.below b0) (k'.below b0))
  have HP : Hid (∀ w1, Below W.heap.size W w1 → Calls Tryz.prog 25 #[.agg #[.slice a S.l.length c, .slice x S.n d]] w1 fun e w' => ∃ v zs k, e = .returned (.tuple #[v, .int .i64 k]) ∧ sxZ S = (zs, k) ∧ Own w' w1.heap.size v zs ∧ Below w1.heap.size w1 w') := hid (fun w1 hb => specPutSt a x c d S w1 hc hcm hm (h.below (keepS b0 hb)) (k.below (keepS b0 hb)))
  have HW1 : Hid (rpB id S S' = true → whZ id S S' = (2, (sxZ S).1, true)) := hid (fun h => if_pos h)
  have HW2 : Hid (rpB id S S' = false → whZ id S S' = (0, [], false)) := hid (fun h => if_neg (by rw [h]; simp))
  have HB0 := hid b0
  have HX := hid B0
  have HF := hid F0
  have q0 := B0.c0
  have q1 := B0.c1
  have q2 := B0.c2
  have q3 := B0.c3
  have q4 := B0.c4
  clear h h' k k' b0 B0 F0
  cases hr : rpB id S S' with
  | true =>
    rw [hr] at HO
    have HWE := hid (HW1.out hr)
    clear hr HW1 HW2
    go_enter Tryz.func11, Tryz.ntmps11
    go_wp2_with fail
    try rw [hW]
    clear hW
    refine HO.out.mono ?_
    rintro e w1 ⟨rfl, b1⟩
    have X1 := HX.out.below b1 HX.out.lt
    have p1 := X1.c1
    have p2 := X1.c2
    have HB1 := hid (keepS HB0.out b1)
    have HP1 := hid (HP.out w1 b1)
    have HF1 := hid (HF.out.below b1 HF.out.lt)
    clear b1 X1 HO HX q0 q1 q2 q3 q4 HP
    go_wp2_with fail
    refine HP1.out.mono ?_
    rintro e w2 ⟨v, zs, kk, rfl, hz, ho, b2⟩
    have HO2 := hid ho
    have hz1 : w.heap.size + 1 < w1.heap.size := HF1.out.lt
    have HB2 := hid (keepS HB1.out b2)
    have HZ : Hid ((sxZ S).1 = zs) := hid (by rw [hz])
    obtain ⟨va, vc, rfl, _⟩ := ho.any
    have F2 := HF1.out.below b2 HF1.out.lt
    have f0 := F2.c0
    have f1 := F2.c1
    have ff := F2.f
    clear hz ho b2 HP1 p1 p2 F2
    go_wp2_with fail
    refine bodyPost_ret (v := .tuple #[.agg #[.int .i64 2, .slice va zs.length vc], .bool true]) (by simp [results, Tryz.results11, go_sem, f0, f1]) rfl ⟨2, _, zs, true, rfl, by rw [HWE.out, HZ.out], ?_, ?_⟩
    · exact ((HO2.out.cellset _ _ hz1).cellset _ _ hz1).weak HB1.out.size
    · exact (HB2.out.setCell (by simp) _).setCell (by simp) _
  | false =>
    rw [hr] at HO
    have HWE := hid (HW2.out hr)
    clear hr HW1 HW2
    go_enter Tryz.func11, Tryz.ntmps11
    go_wp2_with fail
    try rw [hW]
    clear hW
    refine HO.out.mono ?_
    rintro e w1 ⟨rfl, b1⟩
    have HB1 := hid (keepS HB0.out b1)
    have F1 := HF.out.below b1 HF.out.lt
    have f0 := F1.c0
    have f1 := F1.c1
    have ff := F1.f
    clear b1 HO HX q0 q1 q2 q3 q4 HP F1
    go_wp2_with fail
    refine bodyPost_ret (v := .tuple #[.agg #[.int .i64 0, .slice none 0 0], .bool false]) (by simp [results, Tryz.results11, go_sem, f0, f1]) rfl ⟨0, _, [], false, rfl, HWE.out, World.ownsRow_nil _ _ _ _, ?_⟩
    first | exact HB1.out | exact (HB1.out.setCell (by simp) _).setCell (by simp) _
set_option maxRecDepth 100000 in
set_option maxHeartbeats 2000000 in
theorem implWhole (id : Int) (a x a' x' : Option Addr) (c d c' d' : Nat) (S S' : Sx) (w : World) (hi : ∀ i, LfI (gL S.l i)) (hi' : ∀ i, LfI (gL S'.l i)) (hm : S.Sm) (hm' : S'.Sm) (h : SAt w a x S) (h' : SAt w a' x' S') :
    Calls Tryz.prog 12 #[.agg #[.int .i64 id, .slice a S.l.length c, .slice x S.n d, .slice a' S'.l.length c', .slice x' S'.n d']] w fun e w' => ∃ K v zs B, e = .returned (.tuple #[.agg #[.int .i64 K, v], .bool B]) ∧ whZ id S S' = (K, zs, B) ∧ Own w' w.heap.size v zs ∧ Below w.heap.size w w' := by
  obtain ⟨W, hW⟩ : ∃ W, (w.alloc (.cells #[.int .i64 id, .slice a S.l.length c, .slice x S.n d, .slice a' S'.l.length c', .slice x' S'.n d'] 39)).alloc (.cells #[.int .i64 0, .slice none 0 0] 45) = W := ⟨_, rfl⟩
  have b0 : Below w.heap.size w W := by rw [← hW]; exact below2 _ _ _
  have F0 : Bx2 W (w.heap.size + 1) (.int .i64 0) (.slice none 0 0) := by
    rw [← hW]
    have := Bx2.made (w.alloc (.cells #[.int .i64 id, .slice a S.l.length c, .slice x S.n d, .slice a' S'.l.length c', .slice x' S'.n d'] 39)) (.int .i64 0) (.slice none 0 0) 45
    simpa using this
  have B0 : Bx5 W w.heap.size (.int .i64 id) (.slice a S.l.length c) (.slice x S.n d) (.slice a' S'.l.length c') (.slice x' S'.n d') := by rw [← hW]; exact (Bx5.new _ _ _ _ _ _ _).up _
  have HO := hid (implReplicaOk id a x a' x' c d c' d' S S' W hi hi' hm hm' (h.below b0) (h'.below b0))
  have HP : Hid (∀ w1, Below W.heap.size W w1 → Calls Tryz.prog 26 #[.agg #[.slice a S.l.length c, .slice x S.n d]] w1 fun e w' => ∃ v zs k, e = .returned (.tuple #[v, .int .i64 k]) ∧ sxZ S = (zs, k) ∧ Own w' w1.heap.size v zs ∧ Below w1.heap.size w1 w') := hid (fun w1 hb => implPutSt a x c d S w1 hi hm (h.below (keepS b0 hb)))
  have HW1 : Hid (rpB id S S' = true → whZ id S S' = (2, (sxZ S).1, true)) := hid (fun h => if_pos h)
  have HW2 : Hid (rpB id S S' = false → whZ id S S' = (0, [], false)) := hid (fun h => if_neg (by rw [h]; simp))
  have HB0 := hid b0
  have HX := hid B0
  have HF := hid F0
  have q0 := B0.c0
  have q1 := B0.c1
  have q2 := B0.c2
  have q3 := B0.c3
  have q4 := B0.c4
  clear h h' b0 B0 F0
  cases hr : rpB id S S' with
  | true =>
    rw [hr] at HO
    have HWE := hid (HW1.out hr)
    clear hr HW1 HW2
    go_enter Tryz.func12, Tryz.ntmps12
    go_wp2_with fail
    try rw [hW]
    clear hW
    refine HO.out.mono ?_
    rintro e w1 ⟨rfl, b1⟩
    have X1 := HX.out.below b1 HX.out.lt
    have p1 := X1.c1
    have p2 := X1.c2
    have HB1 := hid (keepS HB0.out b1)
    have HP1 := hid (HP.out w1 b1)
    have HF1 := hid (HF.out.below b1 HF.out.lt)
    clear b1 X1 HO HX q0 q1 q2 q3 q4 HP
    go_wp2_with fail
    refine HP1.out.mono ?_
    rintro e w2 ⟨v, zs, kk, rfl, hz, ho, b2⟩
    have HO2 := hid ho
    have hz1 : w.heap.size + 1 < w1.heap.size := HF1.out.lt
    have HB2 := hid (keepS HB1.out b2)
    have HZ : Hid ((sxZ S).1 = zs) := hid (by rw [hz])
    obtain ⟨va, vc, rfl, _⟩ := ho.any
    have F2 := HF1.out.below b2 HF1.out.lt
    have f0 := F2.c0
    have f1 := F2.c1
    have ff := F2.f
    clear hz ho b2 HP1 p1 p2 F2
    go_wp2_with fail
    refine bodyPost_ret (v := .tuple #[.agg #[.int .i64 2, .slice va zs.length vc], .bool true]) (by simp [results, Tryz.results12, go_sem, f0, f1]) rfl ⟨2, _, zs, true, rfl, by rw [HWE.out, HZ.out], ?_, ?_⟩
    · exact ((HO2.out.cellset _ _ hz1).cellset _ _ hz1).weak HB1.out.size
    · exact (HB2.out.setCell (by simp) _).setCell (by simp) _
  | false =>
    rw [hr] at HO
    have HWE := hid (HW2.out hr)
    clear hr HW1 HW2
    go_enter Tryz.func12, Tryz.ntmps12
    go_wp2_with fail
    try rw [hW]
    clear hW
    refine HO.out.mono ?_
    rintro e w1 ⟨rfl, b1⟩
    have HB1 := hid (keepS HB0.out b1)
    have F1 := HF.out.below b1 HF.out.lt
    have f0 := F1.c0
    have f1 := F1.c1
    have ff := F1.f
    clear b1 HO HX q0 q1 q2 q3 q4 HP F1
    go_wp2_with fail
    refine bodyPost_ret (v := .tuple #[.agg #[.int .i64 0, .slice none 0 0], .bool false]) (by simp [results, Tryz.results12, go_sem, f0, f1]) rfl ⟨0, _, [], false, rfl, HWE.out, World.ownsRow_nil _ _ _ _, ?_⟩
    first | exact HB1.out | exact (HB1.out.setCell (by simp) _).setCell (by simp) _
end Go.Proofs.YthilohfaogiioaaGreat

namespace Go.Proofs.YthilohfaogiioaaGreat
open Go.ChangeShapes Go.WideShapes Go.ChangeAt Go.RowKit
set_option linter.unusedVariables false

def digStep (x b : Int) : Int := IntKind.u64.wrap (bits BinOp.xor IntKind.u64 x b * 1099511628211)
def dig (f : Nat → Int) : Nat → Int
  | 0 => 14695981039346656037
  | k + 1 => digStep (dig f k) (f k)

set_option maxHeartbeats 400000 in
theorem specDigest (a : Option Addr) (n c : Nat) (f : Nat → Int) (w : World) (hn : n ≤ 1048576) (hf : Byt f) (h : Seg w a n f) :
    Calls Tryz.prog 48 #[.slice a n c] w fun e w' => e = .returned (.int .u64 (dig f n)) ∧ w' = w := by
  have key : ∀ k, k < n → ∃ b off, a = some ⟨b, off, none⟩ ∧ b < w.heap.size ∧ ∀ i, i < n → w.cell? ⟨b, off + i, none⟩ = some (.int .u8 (f i)) := by
    intro k hk; rcases h with h | h; omega; exact h
  clear h
  by_cases h0 : n = 0
  · subst h0
    go_enter Tryz.func48, Tryz.ntmps48
    go_wp2
    refine wp_loop_rounds 1 ?_; rw [rounds_succ]; go_wp2
    go_ret
    exact ⟨rfl, rfl⟩
  · obtain ⟨b, off, rfl, hb, hc⟩ := key 0 (by omega)
    clear key
    go_enter Tryz.func48, Tryz.ntmps48
    go_wp2
    go_loop [3, 4] (fun v i => ∃ k : Nat, k ≤ n ∧ i = .int .i64 k ∧ v = .int .u64 (dig f k)) (fun _ i => n - (intOf i).toNat)
    case atStart => exact ⟨0, Nat.zero_le _, rfl, rfl⟩
    case round =>
      obtain ⟨k, hk, rfl, rfl⟩ := hrel
      by_cases hlt : k < n
      · have hck := hc k hlt
        have hfk := hf k
        go_wp2
        go_round
        case rel => exact ⟨k + 1, hlt, by go_num, rfl⟩
        case measure => simp [intOf]; omega
      · obtain rfl : k = n := by omega
        go_wp2
        go_ret
        exact ⟨rfl, rfl⟩

set_option maxHeartbeats 400000 in
theorem implDigest (a : Option Addr) (n c : Nat) (f : Nat → Int) (w : World) (hn : n ≤ 1048576) (hf : Byt f) (h : Seg w a n f) :
    Calls Tryz.prog 34 #[.slice a n c] w fun e w' => e = .returned (.int .u64 (dig f n)) ∧ w' = w := by
  have key : ∀ k, k < n → ∃ b off, a = some ⟨b, off, none⟩ ∧ b < w.heap.size ∧ ∀ i, i < n → w.cell? ⟨b, off + i, none⟩ = some (.int .u8 (f i)) := by
    intro k hk; rcases h with h | h; omega; exact h
  clear h
  by_cases h0 : n = 0
  · subst h0
    go_enter Tryz.func34, Tryz.ntmps34
    go_wp2
    refine wp_loop_rounds 1 ?_; rw [rounds_succ]; go_wp2
    go_ret
    exact ⟨rfl, rfl⟩
  · obtain ⟨b, off, rfl, hb, hc⟩ := key 0 (by omega)
    clear key
    go_enter Tryz.func34, Tryz.ntmps34
    go_wp2
    go_loop [3, 8] (fun v i => ∃ k : Nat, k ≤ n ∧ i = .int .i64 k ∧ v = .int .u64 (dig f k)) (fun _ i => n - (intOf i).toNat)
    case atStart => exact ⟨0, Nat.zero_le _, rfl, rfl⟩
    case round =>
      obtain ⟨k, hk, rfl, rfl⟩ := hrel
      by_cases hlt : k < n
      · have hck := hc k hlt
        have hfk := hf k
        go_wp2
        go_round
        case rel => exact ⟨k + 1, hlt, by go_num, rfl⟩
        case measure => simp [intOf]; omega
      · obtain rfl : k = n := by omega
        go_wp2
        go_ret
        exact ⟨rfl, rfl⟩

end Go.Proofs.YthilohfaogiioaaGreat
