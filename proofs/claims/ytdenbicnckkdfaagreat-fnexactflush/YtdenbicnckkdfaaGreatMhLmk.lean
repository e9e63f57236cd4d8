import Derived.Test.YtdenbicnckkdfaaGreatMg43
import Derived.Test.YtdenbicnckkdfaaGreatMg40
namespace Go.Proofs.YtdenbicnckkdfaaGreat
open Go.ChangeShapes Go.WideShapes Go.ChangeAt Go.RowKit
set_option linter.unusedVariables false
set_option linter.unusedSimpArgs false

set_option maxRecDepth 100000 in
set_option maxHeartbeats 400000 in
theorem markB9 (B g n cap : Nat) (k0 : Nat) (ys : List Value) (w : World) (hk0 : k0 ≤ 9000000000000) (hn1 : n ≤ 1000000000) (ho : w.ownsRow B 5 1 (.slice (some ⟨g, 0, none⟩) n cap) n ys) :
    Calls Tryz.prog 28 #[.slice (some ⟨g, 0, none⟩) n cap, .int .i64 (k0 : Int)] w fun e w' => e = .returned (.int .i64 ((k0 + n : Nat) : Int)) ∧ Below B w w' ∧ w'.heap.size = w.heap.size ∧ Seg w' (some ⟨g, 0, none⟩) n (mk8 k0) ∧ (∀ b, b ≠ g → w'.heap[b]? = w.heap[b]?) := by
  go_enter Tryz.func28, Tryz.ntmps28
  go_wp2_with fail
  go_loopw [1, 5] (fun k i wr => ∃ j : Nat, j ≤ n ∧ i = .int .i64 (j : Int) ∧ k = .int .i64 ((k0 + j : Nat) : Int) ∧ Below B w wr ∧ wr.heap.size = w.heap.size ∧ (∀ b, b ≠ g → wr.heap[b]? = w.heap[b]?) ∧ ∃ xs : List Value, wr.ownsRow B 5 1 (.slice (some ⟨g, 0, none⟩) n cap) n xs ∧ ∀ t, t < j → xs[t]? = some (.int .u8 (mk8 k0 t))) (fun _ i _ => n - (intOf i).toNat)
  case atStart => exact ⟨0, Nat.zero_le _, rfl, rfl, Below.refl _ _, rfl, fun _ _ => rfl, _, ho, fun t ht => by omega⟩
  case round =>
    clear ho
    obtain ⟨j, hj, rfl, rfl, hbel, hsz, hoth, xs, hown, hxs⟩ := hrel
    by_cases hlt : j < n
    · have hfz := hown.frozenAt j
      obtain ⟨u, hu⟩ : ∃ u, wr.cell? ⟨g, j, none⟩ = some u := by
        rw [hown.cellAt j (by omega)]
        have := hown.1
        exact ⟨_, List.getElem?_eq_getElem (by omega)⟩
      have R := (hown.stored j (.int .u8 (((k0 : Int) + (j : Int)) % 256))).1
      have RX : ∀ t, t < j + 1 → (xs.set j (.int .u8 (((k0 : Int) + (j : Int)) % 256)))[t]? = some (.int .u8 (mk8 k0 t)) := by
        intro t ht
        by_cases htj : j = t
        · subst htj
          have := hown.1
          rw [List.getElem?_set_self (by omega)]
          unfold mk8; simp
        · rw [List.getElem?_set_ne htj]; exact hxs t (by omega)
      have RB := hbel.setCell (p := ⟨g, j, none⟩) (hown.lt g rfl).1 (.int .u8 (((k0 : Int) + (j : Int)) % 256))
      have RS : (wr.setCell ⟨g, j, none⟩ (.int .u8 (((k0 : Int) + (j : Int)) % 256))).heap.size = w.heap.size := by rw [← hsz]; simp [World.setCell]
      have RO : Hid (∀ b, b ≠ g → (wr.setCell ⟨g, j, none⟩ (.int .u8 (((k0 : Int) + (j : Int)) % 256))).heap[b]? = w.heap[b]?) := fun b hb => (Below.heap_setCell _ _ _ _ hb).trans (hoth b hb)
      have HR := hid (And.intro R (And.intro RX (And.intro RB RS)))
      clear R RX RB RS hown hxs hoth
      go_wp2_with fail
      go_roundw
      case rel => exact ⟨j + 1, hlt, by go_num, by go_num, HR.out.2.2.1, HR.out.2.2.2, RO.out, _, HR.out.1, HR.out.2.1⟩
      case measure => simp [intOf]; omega
    · obtain rfl : j = n := by omega
      have hsg : Seg wr (some ⟨g, 0, none⟩) j (mk8 k0) := .inr ⟨g, 0, rfl, (hown.lt g rfl).2, fun i hi => by rw [Nat.zero_add, hown.cellAt i (by omega)]; exact hxs i hi⟩
      have HR := hid (And.intro hsg hoth)
      clear hown hxs hsg hoth
      go_wp2_with fail
      go_ret
      exact ⟨rfl, hbel, hsz, HR.out.1, HR.out.2⟩

set_option maxRecDepth 100000 in
set_option maxHeartbeats 400000 in
theorem heldB9 (a : Option Addr) (n cap k0 : Nat) (w : World) (hk0 : k0 ≤ 9000000000000) (hn1 : n ≤ 1000000000) (h : Seg w a n (mk8 k0)) :
    Calls Tryz.prog 30 #[.slice a n cap, .int .i64 (k0 : Int)] w fun e w' => e = .returned (.int .i64 ((k0 + n : Nat) : Int)) ∧ w' = w := by
  rcases h with h | ⟨b, off, rfl, hb, hc⟩
  · subst h
    go_enter Tryz.func30, Tryz.ntmps30
    go_wp2
    refine wp_loop_rounds 1 ?_; rw [rounds_succ]; go_wp2
    go_ret
    exact ⟨rfl, rfl⟩
  · go_enter Tryz.func30, Tryz.ntmps30
    go_wp2
    go_loop [1, 5] (fun k i => ∃ j : Nat, j ≤ n ∧ i = .int .i64 (j : Int) ∧ k = .int .i64 ((k0 + j : Nat) : Int)) (fun _ i => n - (intOf i).toNat)
    case atStart => exact ⟨0, Nat.zero_le _, rfl, rfl⟩
    case round =>
      obtain ⟨j, hj, rfl, rfl⟩ := hrel
      by_cases hlt : j < n
      · have hck : w.cell? ⟨b, off + j, none⟩ = some (.int .u8 (((k0 : Int) + (j : Int)) % 256)) := by rw [hc j hlt]; unfold mk8; simp
        clear hc
        go_wp2
        go_round
        case rel => exact ⟨j + 1, hlt, by go_num, by go_num⟩
        case measure => simp [intOf]; omega
      · obtain rfl : j = n := by omega
        go_wp2
        go_ret
        exact ⟨rfl, rfl⟩

theorem markOwn9 {w : World} {B : Nat} {v : Value} {zs : List Int} (h : Own w B v zs) (hl : zs.length ≤ 1000000) (k0 : Nat) (hk0 : k0 ≤ 9000000000000) :
    Calls Tryz.prog 28 #[v, .int .i64 (k0 : Int)] w fun e w' => e = .returned (.int .i64 ((k0 + zs.length : Nat) : Int)) ∧ Below B w w' ∧ (∃ a cap, v = .slice a zs.length cap ∧ Seg w' a zs.length (mk8 k0)) ∧ ∀ q, some q ≠ v.ownBlock → w'.heap[q]? = w.heap[q]? := by
  by_cases hz : zs = []
  · subst hz
    obtain ⟨a, cap, rfl, s⟩ := h.any
    refine (markB0 a cap k0 w).mono ?_
    rintro e w' ⟨rfl, rfl⟩
    exact ⟨by simp, Below.refl _ _, ⟨a, cap, rfl, .inl rfl⟩, fun _ _ => rfl⟩
  · obtain ⟨g, cap, rfl, _, _, _, _, _, s⟩ := h.shape hz
    refine (markB9 B g zs.length cap k0 _ w (by omega) (by omega) h).mono ?_
    rintro e w' ⟨rfl, b, z, s, o⟩
    exact ⟨rfl, b, ⟨_, cap, rfl, s⟩, fun q hq => o q (fun e => hq (by rw [e]; rfl))⟩
set_option maxHeartbeats 1000000 in
theorem markFrame9 (K : Int) (v : Value) (zs : List Int) (B k0 : Nat) (w : World) (hk : k0 ≤ 9000000000000) (hl : zs.length ≤ 1000000) (hB : B ≤ w.heap.size) (h : Own w B v zs) :
    Calls Tryz.prog 11 #[.agg #[.int .i64 K, v], .int .i64 (k0 : Int)] w fun e w' => e = .returned (.int .i64 ((k0 + zs.length : Nat) : Int)) ∧ Below B w w' ∧ (∃ a cap, v = .slice a zs.length cap ∧ Seg w' a zs.length (mk8 k0)) ∧ ∀ q, q < w.heap.size → some q ≠ v.ownBlock → w'.heap[q]? = w.heap[q]? := by
  obtain ⟨W, hW⟩ : ∃ W, w.alloc (.cells #[.int .i64 K, v] 41) = W := ⟨_, rfl⟩
  have b0 : Below w.heap.size w W := by rw [← hW]; exact (Below.refl _ _).alloc (Nat.le_refl _) _
  have c0 : W.cell? ⟨w.heap.size, 0, none⟩ = some (.int .i64 K) := by rw [← hW]; simp
  have c1 : W.cell? ⟨w.heap.size, 1, none⟩ = some v := by rw [← hW]; simp
  obtain ⟨va, vc, hv, _⟩ := h.any
  have HBW := hid b0
  have HM := hid (markOwn9 (own_at5 h fun g hg => b0.block g (World.ownsRow.lt h g hg).2) (by omega) k0 hk)
  have HB0 := hid (b0.mono hB)
  clear h b0
  subst hv
  go_enter Tryz.func11, Tryz.ntmps11
  go_wp2_with fail
  try rw [hW]
  clear hW
  refine HM.out.mono ?_
  rintro e w1 ⟨rfl, b1, hs, hq⟩
  have HQ := hid hq
  have HB1 := hid (HB0.out.trans b1)
  have HS := hid hs
  obtain ⟨m, hm⟩ : ∃ m, k0 + zs.length = m := ⟨_, rfl⟩
  have HE := hid hm
  rw [hm]
  clear b1 hs hq HM c0 c1 hm
  go_wp2_with fail
  go_ret
  exact ⟨by rw [HE.out]; rfl, HB1.out, HS.out, fun q h1 h2 => (HQ.out q h2).trans (HBW.out.block q h1)⟩
set_option maxHeartbeats 1000000 in
theorem heldFrame9 (K : Int) (a : Option Addr) (n cap k0 : Nat) (w : World) (hk : k0 ≤ 9000000000000) (hl : n ≤ 1000000) (h : Seg w a n (mk8 k0)) :
    Calls Tryz.prog 13 #[.agg #[.int .i64 K, .slice a n cap], .int .i64 (k0 : Int)] w fun e w' => e = .returned (.int .i64 ((k0 + n : Nat) : Int)) ∧ Below w.heap.size w w' := by
  obtain ⟨W, hW⟩ : ∃ W, w.alloc (.cells #[.int .i64 K, .slice a n cap] 41) = W := ⟨_, rfl⟩
  have b0 : Below w.heap.size w W := by rw [← hW]; exact (Below.refl _ _).alloc (Nat.le_refl _) _
  have c0 : W.cell? ⟨w.heap.size, 0, none⟩ = some (.int .i64 K) := by rw [← hW]; simp
  have c1 : W.cell? ⟨w.heap.size, 1, none⟩ = some (.slice a n cap) := by rw [← hW]; simp
  have HM := hid (heldB9 a n cap k0 W hk (by omega) (h.below b0))
  have HB0 := hid b0
  clear h b0
  go_enter Tryz.func13, Tryz.ntmps13
  go_wp2_with fail
  try rw [hW]
  clear hW
  refine HM.out.mono ?_
  rintro e w1 ⟨rfl, rfl⟩
  obtain ⟨m, hm⟩ : ∃ m, k0 + n = m := ⟨_, rfl⟩
  have HE := hid hm
  rw [hm]
  have dm : decide ((m : Int) < 0) = false := by simp
  clear HM c0 c1 hm
  go_wp2_with fail
  go_ret
  exact ⟨by rw [HE.out]; rfl, HB0.out⟩

set_option maxRecDepth 100000 in
set_option maxHeartbeats 1000000 in
theorem markReplicaO (id : Int) {a x a' x' : Option Addr} {c d c' d' lo mid hi : Nat} {S D : Sx} {w : World} (hm : S.Sm) (hm' : D.Sm) (h : SOw w lo mid a x d S) (h' : SOw w mid hi a' x' d' D) :
    Calls Tryz.prog 10 #[.agg #[.int .i64 id, .slice a S.l.length c, .slice x S.n d, .slice a' D.l.length c', .slice x' D.n d'], .int .i64 1] w fun e w' => e = .returned (.int .i64 (mE D (mE S 1) : Int)) ∧ Btw lo hi w w' ∧ SMkN w' lo mid a x S 1 ∧ SMkN w' mid hi a' x' D (mE S 1) := by
  obtain ⟨W, hW⟩ : ∃ W, w.alloc (.cells #[.int .i64 id, .slice a S.l.length c, .slice x S.n d, .slice a' D.l.length c', .slice x' D.n d'] 38) = W := ⟨_, rfl⟩
  have b0 : Below w.heap.size w W := by rw [← hW]; exact (Below.refl _ _).alloc (Nat.le_refl _) _
  have B0 : Bx5 W w.heap.size (.int .i64 id) (.slice a S.l.length c) (.slice x S.n d) (.slice a' D.l.length c') (.slice x' D.n d') := by rw [← hW]; exact Bx5.new _ _ _ _ _ _ _
  have HL : Hid (lo ≤ mid ∧ mid ≤ hi ∧ hi ≤ w.heap.size) := hid ⟨h.hl.1, h'.hl.1, h'.hl.2⟩
  have hle := (mE_le hm 1).1
  have HM1 := hid (markStateO (c := c) (h.below b0) hm 1 (by omega))
  have HM2 : Hid (∀ w1, Btw lo mid W w1 → Calls Tryz.prog 27 #[.agg #[.slice a' D.l.length c', .slice x' D.n d'], .int .i64 (mE S 1 : Int)] w1 fun e w' => e = .returned (.int .i64 (mE D (mE S 1) : Int)) ∧ Btw mid hi w1 w' ∧ SMkN w' mid hi a' x' D (mE S 1)) := hid (fun w1 t => markStateO (c := c') ((h'.below b0).same t.size (fun q h1 h2 => t.block q (Nat.lt_of_lt_of_le h2 (h'.below b0).hl.2) (.inr h1))) hm' (mE S 1) (by omega))
  have HB0 := hid (Btw.below (lo := lo) (hi := hi) b0)
  have HX := hid B0
  have HBs : Hid (w.heap.size ≤ W.heap.size) := hid b0.size
  obtain ⟨E, hE⟩ : ∃ E, mE S 1 = E := ⟨_, rfl⟩
  rw [hE] at HM1 HM2 hle ⊢
  have e1 : mE S 1 = E := hE
  obtain ⟨E2, hE2⟩ : ∃ E2, mE D E = E2 := ⟨_, rfl⟩
  rw [hE2] at HM2 ⊢
  have q1 := B0.c1
  have q2 := B0.c2
  clear h h' b0 B0 hE hE2 e1
  go_enter Tryz.func10, Tryz.ntmps10
  go_wp2_with fail
  try rw [hW]
  clear hW
  refine HM1.out.mono ?_
  rintro e w1 ⟨rfl, t1, k1⟩
  have eb := t1.block w.heap.size HX.out.lt (.inr (by have := HL.out; omega))
  have r3 := (World.cell?_of_block (a := ⟨w.heap.size, 3, none⟩) eb).trans HX.out.c3
  have r4 := (World.cell?_of_block (a := ⟨w.heap.size, 4, none⟩) eb).trans HX.out.c4
  have HC := hid (HM2.out w1 t1)
  have HK1 := hid k1
  have HB1 := hid (HB0.out.trans (t1.wide (Nat.le_refl _) HL.out.2.1))
  have HS1 : Hid (hi ≤ w1.heap.size) := hid (by have := t1.size; have := HL.out; have := HBs.out; omega)
  clear t1 k1 eb HM1 HM2 q1 q2 HX
  go_wp2_with fail
  refine HC.out.mono ?_
  rintro e w2 ⟨rfl, t2, k2⟩
  have HB2 := hid (HB1.out.trans (t2.wide HL.out.1 (Nat.le_refl _)))
  have HK2 := hid k2
  have HK1' := hid (HK1.out.move t2.size (fun q h1 h2 => t2.block q (by have := HS1.out; have := HL.out; omega) (.inl h2)))
  clear t2 k2 HC r3 r4
  go_wp2_with fail
  go_ret
  exact ⟨rfl, HB2.out, HK1'.out, HK2.out⟩
set_option maxRecDepth 100000 in
set_option maxHeartbeats 1000000 in
theorem heldReplicaO (id : Int) {a x a' x' : Option Addr} {c d c' d' : Nat} {S D : Sx} {w : World} (hm : S.Sm) (hm' : D.Sm) (h : SMk w a x S 1) (h' : SMk w a' x' D (mE S 1)) :
    Calls Tryz.prog 12 #[.agg #[.int .i64 id, .slice a S.l.length c, .slice x S.n d, .slice a' D.l.length c', .slice x' D.n d'], .int .i64 1] w fun e w' => e = .returned (.int .i64 (mE D (mE S 1) : Int)) ∧ Below w.heap.size w w' := by
  obtain ⟨W, hW⟩ : ∃ W, w.alloc (.cells #[.int .i64 id, .slice a S.l.length c, .slice x S.n d, .slice a' D.l.length c', .slice x' D.n d'] 38) = W := ⟨_, rfl⟩
  have b0 : Below w.heap.size w W := by rw [← hW]; exact (Below.refl _ _).alloc (Nat.le_refl _) _
  have B0 : Bx5 W w.heap.size (.int .i64 id) (.slice a S.l.length c) (.slice x S.n d) (.slice a' D.l.length c') (.slice x' D.n d') := by rw [← hW]; exact Bx5.new _ _ _ _ _ _ _
  have hle := (mE_le hm 1).1
  have HM1 := hid (heldStateO (c := c) (d := d) hm 1 (by omega) (h.below b0))
  have HM2 : Hid (∀ w1, Below W.heap.size W w1 → Calls Tryz.prog 29 #[.agg #[.slice a' D.l.length c', .slice x' D.n d'], .int .i64 (mE S 1 : Int)] w1 fun e w' => e = .returned (.int .i64 (mE D (mE S 1) : Int)) ∧ Below w1.heap.size w1 w') := hid (fun w1 hb => heldStateO (c := c') (d := d') hm' (mE S 1) (by omega) (h'.below (keepS b0 hb)))
  have HB0 := hid b0
  have HX := hid B0
  obtain ⟨E, hE⟩ : ∃ E, mE S 1 = E := ⟨_, rfl⟩
  rw [hE] at HM1 HM2 hle ⊢
  obtain ⟨E2, hE2⟩ : ∃ E2, mE D E = E2 := ⟨_, rfl⟩
  rw [hE2] at HM2 ⊢
  have dE : decide ((E : Int) < 0) = false := by simp
  have dE2 : decide ((E2 : Int) < 0) = false := by simp
  have q1 := B0.c1
  have q2 := B0.c2
  clear h h' b0 B0 hE hE2
  go_enter Tryz.func12, Tryz.ntmps12
  go_wp2_with fail
  try rw [hW]
  clear hW
  refine HM1.out.mono ?_
  rintro e w1 ⟨rfl, b1⟩
  have X1 := HX.out.below b1 HX.out.lt
  have r3 := X1.c3
  have r4 := X1.c4
  have HC := hid (HM2.out w1 b1)
  have HB1 := hid (keepS HB0.out b1)
  clear b1 X1 HM1 HM2 q1 q2 HX
  go_wp2_with fail
  refine HC.out.mono ?_
  rintro e w2 ⟨rfl, b2⟩
  have HB2 := hid (keepS HB1.out b2)
  clear b2 HC r3 r4
  go_wp2_with fail
  go_ret
  exact ⟨rfl, HB2.out⟩
end Go.Proofs.YtdenbicnckkdfaaGreat
