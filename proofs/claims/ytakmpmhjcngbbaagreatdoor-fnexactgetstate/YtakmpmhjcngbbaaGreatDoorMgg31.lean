import Derived.Test.YtakmpmhjcngbbaaGreatDoorMgg28
import Derived.Test.YtakmpmhjcngbbaaGreatDoorMgg12
import Derived.Test.YtakmpmhjcngbbaaGreatDoorMgg07
import Derived.Deep.Slices
import Derived.Deep.Strs
import Derived.Test.YtakmpmhjcngbbaaGreatDoorMgg30
import Derived.Test.YtakmpmhjcngbbaaGreatDoorMgg11
import Derived.Test.YtakmpmhjcngbbaaGreatDoorMgg29
set_option linter.unusedVariables false
set_option linter.unusedSimpArgs false
set_option maxRecDepth 100000
set_option maxHeartbeats 40000000
namespace Go.Proofs.YtakmpmhjcngbbaaGreatDoor
open Go.ChangeShapes Go.WideShapes Go.ChangeAt Go.RowKit
theorem heldRunS (a : Option Addr) (n cap k0 : Nat) (w : World) (hk0 : k0 ≤ 9000000000000) (hn1 : n ≤ 1000000000) (h : RSeg w a n (mk3 k0 0) (mk3 k0 1) (mk3 k0 2)) :
    Calls Tryz.prog 39 #[.slice a n cap, .int .i64 (k0 : Int)] w fun e w' => e = .returned (.int .i64 ((k0 + 3 * n : Nat) : Int)) ∧ w' = w := by
  rcases h with h | ⟨b, off, rfl, hb, hc⟩
  · subst h
    go_enter Tryz.func39, Tryz.ntmps39
    go_wp2
    refine wp_loop_rounds 1 ?_; rw [rounds_succ]; go_wp2
    go_ret
    exact ⟨rfl, rfl⟩
  · go_enter Tryz.func39, Tryz.ntmps39
    go_wp2
    go_loop [1, 5] (fun k i => ∃ (j m : Nat), j ≤ n ∧ Hid (m = k0 + 3 * j) ∧ i = .int .i64 (j : Int) ∧ k = .int .i64 (m : Int)) (fun _ i => n - (intOf i).toNat)
    case atStart => exact ⟨0, k0, Nat.zero_le _, hid (by omega), rfl, rfl⟩
    case round =>
      obtain ⟨j, m, hj, hm, rfl, rfl⟩ := hrel
      by_cases hlt : j < n
      · have h0 : w.cell? ⟨b, off + j * 3, none⟩ = some (.int .i64 (m : Int)) := by rw [(hc j hlt).1]; unfold mk3; have := hm.out; congr 2; omega
        have h1 : w.cell? ⟨b, off + j * 3 + 1, none⟩ = some (.int .i64 ((m : Int) + 1)) := by rw [(hc j hlt).2.1]; unfold mk3; have := hm.out; congr 2; omega
        have h2 : w.cell? ⟨b, off + j * 3 + 2, none⟩ = some (.int .i64 ((m : Int) + 1 + 1)) := by rw [(hc j hlt).2.2]; unfold mk3; have := hm.out; congr 2; omega
        have hmb : m ≤ 9000000000000 + 3000000000 := by have := hm.out; omega
        clear hc
        go_wp2
        go_round
        case rel => exact ⟨j + 1, m + 3, hlt, hid (by have := hm.out; omega), by go_num, by go_num⟩
        case measure => simp [intOf]; omega
      · obtain rfl : j = n := by omega
        clear hc
        have e := hm.out
        clear hm
        subst e
        go_wp2
        go_ret
        exact ⟨by simp, rfl⟩
theorem heldContext (a : Option Addr) (n cap k0 : Nat) (w : World) (hk0 : k0 ≤ 9000000000000) (hn1 : n ≤ 1000000000) (h : RSeg w a n (mk3 k0 0) (mk3 k0 1) (mk3 k0 2)) :
    Calls Tryz.prog 22 #[.agg #[.slice a n cap], .int .i64 (k0 : Int)] w fun e w' => e = .returned (.int .i64 ((k0 + 3 * n : Nat) : Int)) ∧ Below w.heap.size w w' := by
  have HB0 : Hid (Below w.heap.size w (w.alloc (.cells #[.slice a n cap] 26))) := (Below.refl _ _).alloc (Nat.le_refl _) _
  go_enter Tryz.func22, Tryz.ntmps22
  go_wp2_with fail
  refine (heldRunS a n cap k0 _ hk0 hn1 (h.below HB0.out)).mono ?_
  rintro e w1 ⟨rfl, rfl⟩
  go_wp2_with fail
  go_ret
  exact ⟨by simp, HB0.out⟩
theorem markRun0 (a : Option Addr) (cap k0 : Nat) (w : World) :
    Calls Tryz.prog 37 #[.slice a 0 cap, .int .i64 (k0 : Int)] w fun e w' => e = .returned (.int .i64 (k0 : Int)) ∧ w' = w := by
  go_enter Tryz.func37, Tryz.ntmps37
  go_wp2
  refine wp_loop_rounds 1 ?_; rw [rounds_succ]; go_wp2
  go_ret
  exact ⟨rfl, rfl⟩
theorem markContext0 (a : Option Addr) (cap k0 : Nat) (w : World) (hk0 : k0 ≤ 9000000000000) :
    Calls Tryz.prog 20 #[.agg #[.slice a 0 cap], .int .i64 (k0 : Int)] w fun e w' => e = .returned (.int .i64 (k0 : Int)) ∧ Below w.heap.size w w' := by
  have HB0 : Hid (Below w.heap.size w (w.alloc (.cells #[.slice a 0 cap] 26))) := (Below.refl _ _).alloc (Nat.le_refl _) _
  go_enter Tryz.func20, Tryz.ntmps20
  go_wp2_with fail
  refine (markRun0 a cap k0 _).mono ?_
  rintro e w1 ⟨rfl, rfl⟩
  go_wp2_with fail
  go_ret
  exact ⟨rfl, HB0.out⟩
end Go.Proofs.YtakmpmhjcngbbaaGreatDoor
namespace Go.Proofs.YtakmpmhjcngbbaaGreatDoor
open Go.ChangeShapes Go.WideShapes Go.ChangeAt Go.RowKit Go.Deep
theorem addr_addP (b off j : Nat) : (⟨b, off, none⟩ : Addr).add j = ⟨b, off + j, none⟩ := by
  by_cases hj : j = 0
  · subst hj; rfl
  · simp [Addr.add, hj]
structure Sx where
  l : List Lf
  n : Nat
  R : Nat → Int
  F : Nat → Int
  T : Nat → Int
structure Sx.Sm (S : Sx) : Prop where
  l1 : S.l.length ≤ 1048576
  p1 : LBd S.l
  n1 : S.n ≤ 1048576
theorem own_at5 {w w' : World} {B e size n : Nat} {v : Value} {xs : List Value} (h : w.ownsRow B e size v n xs) (hk : ∀ g, v.ownBlock = some g → w'.heap[g]? = w.heap[g]?) : w'.ownsRow B e size v n xs := by
  obtain ⟨q1, q2⟩ := h
  refine ⟨q1, ?_⟩
  rcases q2 with q2 | ⟨g, cap, cur, e, hbg, hb, r⟩
  · exact .inl q2
  · subst e; exact .inr ⟨g, cap, cur, rfl, hbg, (hk g rfl).trans hb, r⟩
theorem own_weak5 {w : World} {B C e size n : Nat} {v : Value} {xs : List Value} (h : w.ownsRow B e size v n xs) (hc : C ≤ B) : w.ownsRow C e size v n xs := by
  obtain ⟨q1, q2⟩ := h
  refine ⟨q1, ?_⟩
  rcases q2 with q2 | ⟨g, cap, cur, e, hbg, r⟩
  · exact .inl q2
  · exact .inr ⟨g, cap, cur, e, Nat.le_trans hc hbg, r⟩
theorem Bx5.new (w : World) (v0 v1 v2 v3 v4 : Value) (t : TypeId) : Bx5 (w.alloc (.cells #[v0, v1, v2, v3, v4] t)) w.heap.size v0 v1 v2 v3 v4 :=
  ⟨by simp, by simp, by simp, by simp, by simp, fun i => by simp, by simp⟩
end Go.Proofs.YtakmpmhjcngbbaaGreatDoor
namespace Go.Proofs.YtakmpmhjcngbbaaGreatDoor
open Go.ChangeShapes Go.WideShapes Go.ChangeAt Go.RowKit
theorem heldSeg (a : Option Addr) (n c k0 : Nat) (w : World) (hk : k0 + n ≤ 10000000000000) (hn : n ≤ 1048576) (h : n = 0 ∨ ∃ b off, a = some ⟨b, off, none⟩ ∧ b < w.heap.size ∧ ∀ t, t < n → w.cell? ⟨b, off + t, none⟩ = some (.string (mkT (k0 + t)))) :
    Calls Tryz.prog 38 #[.slice a n c, .int .i64 (k0 : Int)] w fun e w' => e = .returned (.int .i64 ((k0 + n : Nat) : Int)) ∧ Below w.heap.size w w' := by
  have HW := hid h
  clear h
  go_enter Tryz.func38, Tryz.ntmps38
  go_wp2_with fail
  go_loopw [1, 5] (fun q i wr => ∃ (j m : Nat), j ≤ n ∧ m ≤ 10000000000000 ∧ Hid (m = k0 + j) ∧ i = .int .i64 (j : Int) ∧ q = .int .i64 (m : Int) ∧ Hid (Below w.heap.size w wr)) (fun _ i _ => n - (intOf i).toNat)
  case atStart => exact ⟨0, k0, Nat.zero_le _, by omega, hid (by omega), rfl, rfl, hid (Below.refl _ _)⟩
  case round =>
    obtain ⟨j, m, hj, hm, HM, rfl, rfl, HB⟩ := hrel
    by_cases hlt : j < n
    · have i1 : (0 : Int) ≤ (j : Int) := Int.natCast_nonneg _
      have i2 : (j : Int) < (n : Int) := by omega
      obtain ⟨g, off, rfl, hg, hc⟩ := HW.out.resolve_left (by omega)
      have zg : g < wr.heap.size := Nat.lt_of_lt_of_le hg HB.out.size
      have c0 := (HB.out.cell (p := ⟨g, off + j, none⟩) hg).trans (hc j hlt)
      have e0 : mkT (k0 + j) = mkT m := by rw [HM.out]
      rw [e0] at c0
      obtain ⟨s, hs⟩ : ∃ s, mkT m = s := ⟨_, rfl⟩
      rw [hs] at c0
      have HT : Hid (∀ w1, Calls Tryz.prog 36 #[.int .i64 (m : Int)] w1 fun e w' => e = .returned (.string s) ∧ Below w1.heap.size w1 w') := hid (fun w1 => by rw [← hs]; exact markTextC m w1 (by omega))
      have hss : (s.toList == s.toList) = true := by simp
      clear hs e0 hc
      go_wp2_with fail
      have HCS : Hid (∀ w', Below wr.heap.size wr w' → (Below wr.heap.size wr w' ∧ w'.cell? ⟨g, off + j, none⟩ = some (.string s))) := hid (fun w' hB => ⟨hB, (hB.cell (p := ⟨g, _, none⟩) zg).trans c0⟩)
      refine wp_region_held_drew (S := fun w' => Below wr.heap.size wr w' ∧ w'.cell? ⟨g, off + j, none⟩ = some (.string s)) (by kernel_rfl) (HCS.out _ (Below.refl _ _).drew) (fun hHeld => ?_)
      refine tk 0 12 ?_ (by kernel_rfl) (fun _ _ _ h => h) ?_ hHeld (tk 1 13 ?_ (by kernel_rfl) (fun _ _ _ h => h) ?_ hHeld (tk 2 14 ?_ (by kernel_rfl) (fun _ _ _ h => h) ?_ hHeld (tk 3 15 ?_ (by kernel_rfl) (fun _ _ _ h => h) ?_ hHeld ?_)))
      iterate 4 (rotate_left; focus (intro o ho; simp only [gZa, gZb, gZc, gZd] at ho; subst ho; refine Or.inl ⟨by rfl, ?_⟩; intro w hSw; (try dsimp only at hSw); (try simp only [Act.put, sZa, sZb, sZc]); go_simp; try with_reducible rfl))
      try simp only [Act.put, sZa, sZb, sZc]
      refine tk 4 16 ?_ (by kernel_rfl) (fun _ _ _ h => h) ?_ hHeld ?_
      rotate_left
      · (intro o ho; simp only [gZa, gZb, gZc, gZd] at ho; subst ho; refine Or.inl ⟨by rfl, ?_⟩; intro w hSw; (try dsimp only at hSw); go_simp; try with_reducible rfl)
      try simp only [Act.put, sZa, sZb, sZc]
      refine call1 (i := 5) (d := some 17) (by kernel_rfl) (by kernel_rfl) ?_
      intro o ho hod K hK; simp only [gZa, gZb, gZc, gZd] at ho; subst ho
      go_simp
      refine (HT.out _).mono ?_
      rintro e w2 ⟨rfl, b2⟩
      have hB := keepS hHeld.1 b2
      refine hK.out _ _ (HCS.out _ hB) (fun hHeld => ?_)
      clear hK K
      try simp only [Act.put, sZa, sZb, sZc]
      refine tk 6 18 ?_ (by kernel_rfl) (fun _ _ _ h => h) ?_ hHeld ?_
      rotate_left
      · (intro o ho; simp only [gZa, gZb, gZc, gZd] at ho; subst ho; refine Or.inl ⟨by rfl, ?_⟩; intro w hSw; (try dsimp only at hSw); go_simp; try with_reducible rfl)
      try simp only [Act.put, sZa, sZb, sZc]
      refine wpAnyH_done (by kernel_rfl) ?_ _
      have HZ := hid (HB.out.trans (hB.mono HB.out.size))
      clear hHeld hB b2
      go_wp2_with fail
      go_roundw
      case rel => exact ⟨j + 1, m + 1, hlt, by have := HM.out; omega, hid (by have := HM.out; omega), by go_num, by go_num, HZ⟩
      case measure => simp [intOf]; omega
    · obtain rfl : j = n := by omega
      go_wp2_with fail
      go_ret
      exact ⟨by rw [← HM.out]; rfl, HB.out⟩
theorem heldLeavesK (a : Option Addr) (c k0 : Nat) (l : List Lf) (w : World) (hk : k0 ≤ 4000000000000) (hn : l.length ≤ 1048576) (hp : ∀ i, (gL l i).p.length ≤ 1048576) (h : LSeg w a (mkL l k0)) :
    Calls Tryz.prog 21 #[.slice a l.length c, .int .i64 (k0 : Int)] w fun e w' => e = .returned (.int .i64 (mP l k0 l.length : Int)) ∧ Below w.heap.size w w' := by
  have HW := hid h
  have HLE := hid (mP_le (l := l) (k0 := k0) hp)
  clear h
  go_enter Tryz.func21, Tryz.ntmps21
  go_wp2_with fail
  go_loopw [1, 5] (fun q i wr => ∃ (j m : Nat), j ≤ l.length ∧ i = .int .i64 (j : Int) ∧ q = .int .i64 (m : Int) ∧ Hid (mP l k0 j = m) ∧ Hid (Below w.heap.size w wr)) (fun _ i _ => l.length - (intOf i).toNat)
  case atStart => exact ⟨0, k0, Nat.zero_le _, rfl, rfl, hid rfl, hid (Below.refl _ _)⟩
  case round =>
    obtain ⟨j, m, hj, rfl, rfl, HM, HB⟩ := hrel
    by_cases hlt : j < l.length
    · have i1 : (0 : Int) ≤ (j : Int) := Int.natCast_nonneg _
      have i2 : (j : Int) < (l.length : Int) := by omega
      have hpj := hp j
      have hmj : m ≤ k0 + j * 1048580 := by have := HLE.out j; rw [HM.out] at this; exact this
      have HNX : Hid (mP l k0 (j + 1) = m + (gL l j).p.length + 4) := hid (by simp only [mP]; rw [HM.out])
      rcases HW.out with h0 | ⟨b, off, rfl, hb, hc⟩
      · rw [mkL_len] at h0; omega
      obtain ⟨pa, pc, c0, hs, c1, c2, c3, c4⟩ := hc j (by rw [mkL_len]; exact hlt)
      rw [mkL_at l k0 hlt, mLf_len] at c0
      rw [mkL_at l k0 hlt] at hs c1 c2 c3 c4
      rw [HM.out] at hs c1 c2 c3 c4
      have hzb : b < wr.heap.size := Nat.lt_of_lt_of_le hb HB.out.size
      obtain ⟨np, hnp⟩ : ∃ np, (gL l j).p.length = np := ⟨_, rfl⟩
      rw [hnp] at c0 hs c1 c2 c3 c4 HNX hpj
      have HSg : Hid (∀ w', Below w.heap.size w w' → Calls Tryz.prog 38 #[.slice pa np pc, .int .i64 (m : Int)] w' fun e w'' => e = .returned (.int .i64 ((m + np : Nat) : Int)) ∧ Below w'.heap.size w' w'') := hid (fun w' hb' => heldSeg pa np pc m w' (by omega) hpj (by
        rcases hs with hs | ⟨g, o, rfl, hg, hcc⟩
        · exact .inl (by rw [mLf_len] at hs; exact hs)
        · refine .inr ⟨g, o, rfl, Nat.lt_of_lt_of_le hg hb'.size, fun t ht => ?_⟩
          have := hcc t (by rw [mLf_len]; exact ht)
          rw [mLf_s _ _ ht] at this
          exact (hb'.cell (p := ⟨g, o + t, none⟩) hg).trans this))
      have HCC : Hid (∀ w', Below w.heap.size w w' → w'.cell? ⟨b, off + j * 5, none⟩ = some (.slice pa np pc) ∧ w'.cell? ⟨b, off + j * 5 + 1, none⟩ = some (.bool (((m + np : Nat) : Int) % 3 == 0)) ∧ w'.cell? ⟨b, off + j * 5 + 2, none⟩ = some (.int .i64 ((m + np + 1 : Nat) : Int)) ∧ w'.cell? ⟨b, off + j * 5 + 3, none⟩ = some (.int .i64 ((m + np + 2 : Nat) : Int)) ∧ w'.cell? ⟨b, off + j * 5 + 4, none⟩ = some (.string (mkT (m + np + 3)))) := hid (fun w' hb' => ⟨(hb'.cell (p := ⟨b, _, none⟩) hb).trans c0, (hb'.cell (p := ⟨b, _, none⟩) hb).trans c1, (hb'.cell (p := ⟨b, _, none⟩) hb).trans c2, (hb'.cell (p := ⟨b, _, none⟩) hb).trans c3, (hb'.cell (p := ⟨b, _, none⟩) hb).trans c4⟩)
      clear hc c0 c1 c2 c3 c4 hs hnp
      obtain ⟨m1, hm1⟩ : ∃ m1, m + np = m1 := ⟨_, rfl⟩
      rw [hm1] at HNX HCC HSg
      have hm2 : m1 ≤ k0 + j * 1048580 + 1048576 := by omega
      obtain ⟨c0, c1, c2, c3, c4⟩ := HCC.out wr HB.out
      have HS1 := hid (HSg.out wr HB.out)
      clear hm1 HSg
      have dm : decide ((m1 : Int) < 0) = false := by simp
      go_wp2_with fail
      refine HS1.out.mono ?_
      rintro e w1 ⟨rfl, b1⟩
      have HB1 := hid (HB.out.trans (b1.mono HB.out.size))
      clear c0 c1 c2 c3 c4 b1 HS1
      obtain ⟨c0, c1, c2, c3, c4⟩ := HCC.out w1 HB1.out
      have e2 : ((m1 + 1 : Nat) : Int) = (m1 : Int) + 1 := by omega
      have e3 : ((m1 + 2 : Nat) : Int) = (m1 : Int) + 1 + 1 := by omega
      rw [e2] at c2
      rw [e3] at c3
      obtain ⟨s, hs⟩ : ∃ s, mkT (m1 + 3) = s := ⟨_, rfl⟩
      rw [hs] at c4
      have HT : Hid (∀ w1, Calls Tryz.prog 36 #[.int .i64 ((m1 : Int) + 1 + 1 + 1)] w1 fun e w' => e = .returned (.string s) ∧ Below w1.heap.size w1 w') := hid (fun w1 => by rw [← hs, show (m1 : Int) + 1 + 1 + 1 = ((m1 + 3 : Nat) : Int) by omega]; exact markTextC (m1 + 3) w1 (by omega))
      have hss : (s.toList == s.toList) = true := by simp
      obtain ⟨F, hF⟩ : ∃ F, ((m1 : Int) % 3 == 0) = F := ⟨_, rfl⟩
      have hFF : (F != F) = false := by simp
      have hF2 : (F == F) = true := by simp
      rw [hF] at c1
      clear hs e2 e3
      have zb1 : b < w1.heap.size := Nat.lt_of_lt_of_le hb HB1.out.size
      go_wp2_with fail
      have HCS : Hid (∀ w', Below w1.heap.size w1 w' → (Below w1.heap.size w1 w' ∧ w'.cell? ⟨b, off + j * 5 + 4, none⟩ = some (.string s))) := hid (fun w' hB => ⟨hB, (hB.cell (p := ⟨b, _, none⟩) zb1).trans c4⟩)
      refine wp_region_held_drew (S := fun w' => Below w1.heap.size w1 w' ∧ w'.cell? ⟨b, off + j * 5 + 4, none⟩ = some (.string s)) (by kernel_rfl) (HCS.out _ (Below.refl _ _).drew) (fun hHeld => ?_)
      refine tk 0 52 ?_ (by kernel_rfl) (fun _ _ _ h => h) ?_ hHeld (tk 1 53 ?_ (by kernel_rfl) (fun _ _ _ h => h) ?_ hHeld (tk 2 54 ?_ (by kernel_rfl) (fun _ _ _ h => h) ?_ hHeld (tk 3 55 ?_ (by kernel_rfl) (fun _ _ _ h => h) ?_ hHeld ?_)))
      iterate 4 (rotate_left; focus (intro o ho; simp only [gZa, gZb, gZc, gZd] at ho; subst ho; refine Or.inl ⟨by rfl, ?_⟩; intro w hSw; (try dsimp only at hSw); (try simp only [Act.put, sZa, sZb, sZc]); go_simp; try with_reducible rfl))
      try simp only [Act.put, sZa, sZb, sZc]
      refine tk 4 56 ?_ (by kernel_rfl) (fun _ _ _ h => h) ?_ hHeld (tk 5 57 ?_ (by kernel_rfl) (fun _ _ _ h => h) ?_ hHeld ?_)
      iterate 2 (rotate_left; focus (intro o ho; simp only [gZa, gZb, gZc, gZd] at ho; subst ho; refine Or.inl ⟨by rfl, ?_⟩; intro w hSw; (try dsimp only at hSw); (try simp only [Act.put, sZa, sZb, sZc]); go_simp; try with_reducible rfl))
      try simp only [Act.put, sZa, sZb, sZc]
      refine call1 (i := 6) (d := some 58) (by kernel_rfl) (by kernel_rfl) ?_
      intro o ho hod K hK; simp only [gZa, gZb, gZc, gZd] at ho; subst ho
      go_simp
      refine (HT.out _).mono ?_
      rintro e w2 ⟨rfl, b2⟩
      have hB := keepS hHeld.1 b2
      refine hK.out _ _ (HCS.out _ hB) (fun hHeld => ?_)
      clear hK K
      try simp only [Act.put, sZa, sZb, sZc]
      refine tk 7 59 ?_ (by kernel_rfl) (fun _ _ _ h => h) ?_ hHeld ?_
      rotate_left
      · (intro o ho; simp only [gZa, gZb, gZc, gZd] at ho; subst ho; refine Or.inl ⟨by rfl, ?_⟩; intro w hSw; (try dsimp only at hSw); go_simp; try with_reducible rfl)
      try simp only [Act.put, sZa, sZb, sZc]
      refine wpAnyH_done (by kernel_rfl) ?_ _
      have HZ := hid (HB1.out.trans (hB.mono HB1.out.size))
      have HNX2 : Hid (mP l k0 (j + 1) = m1 + 4) := HNX
      clear hHeld hB b2 c0 c1 c2 c3 c4 HCC HCS HNX
      go_wp2_with fail
      go_roundw
      case rel => exact ⟨j + 1, m1 + 4, hlt, by go_num, by go_num, HNX2, HZ⟩
      case measure => simp [intOf]; omega
    · obtain rfl : j = l.length := by omega
      go_wp2_with fail
      go_ret
      exact ⟨by rw [HM.out]; rfl, HB.out⟩
structure SOw (w : World) (lo hi : Nat) (a x : Option Addr) (d : Nat) (S : Sx) : Prop where
  lf : LSeg w a S.l
  rn : RSeg w x S.n S.R S.F S.T
  lv : S.l.length = 0 ∨ ∃ b P Q G, a = some ⟨b, 0, none⟩ ∧ LWy lo hi b S.l P G ∧ ∀ k0, LIn w w lo hi b S.l P Q G k0 0 0
  ro : S.n = 0 ∨ ∃ g ys, x = some ⟨g, 0, none⟩ ∧ g < hi ∧ w.ownsRow lo 64 3 (.slice (some ⟨g, 0, none⟩) S.n d) S.n ys
  hl : lo ≤ hi ∧ hi ≤ w.heap.size
theorem LIn.zero {w w' : World} {lo hi b : Nat} {l : List Lf} {P : Nat → Option Addr} {Q G : Nat → Nat} {k0 : Nat} (hw : LWy lo hi b l P G) (h : LIn w w lo hi b l P Q G k0 0 0) (hq : ∀ q, lo ≤ q → q < hi → w'.heap[q]? = w.heap[q]?) : LIn w' w' lo hi b l P Q G k0 0 0 := by
  obtain ⟨C, hC⟩ := h.wr
  have eb := hq b hw.b1 hw.b2
  refine ⟨Btw.refl _ _ _, fun _ _ _ => rfl, ⟨C, hC.same eb⟩, fun i hi => (World.cell?_of_block (a := ⟨b, _, none⟩) eb).trans (h.pth i hi), fun i h1 h2 h3 => ?_, fun i h1 => by omega, fun i h1 => by omega⟩
  obtain ⟨cur, k1, k2⟩ := h.todo i h1 h2 h3
  have hg := hw.g1 i h2 h3
  exact ⟨cur, (hq _ hg.2.2.1 hg.2.2.2).trans k1, k2⟩
theorem markLeaves0 (a : Option Addr) (c k0 : Nat) (w : World) : Calls Tryz.prog 19 #[.slice a 0 c, .int .i64 (k0 : Int)] w fun e w' => e = .returned (.int .i64 (k0 : Int)) ∧ w' = w := by
  go_enter Tryz.func19, Tryz.ntmps19
  go_wp2_with fail
  refine wp_loop_rounds 1 ?_; rw [rounds_succ]; go_wp2_with fail
  go_ret
  exact ⟨rfl, rfl⟩
theorem SOw.markL {w : World} {lo hi : Nat} {a x : Option Addr} {c d : Nat} {S : Sx} (h : SOw w lo hi a x d S) (hm : S.Sm) (k0 : Nat) (hk : k0 ≤ 4000000000000) :
    Calls Tryz.prog 19 #[.slice a S.l.length c, .int .i64 (k0 : Int)] w fun e w' => e = .returned (.int .i64 (mP S.l k0 S.l.length : Int)) ∧ Btw lo hi w w' ∧ (∀ (q : Nat) (cur : Array Value), w.heap[q]? = some (Obj.cells cur 64 (0, 0)) → w'.heap[q]? = w.heap[q]?) ∧ (∀ w2 : World, w'.heap.size ≤ w2.heap.size → (∀ q, lo ≤ q → q < hi → q < w'.heap.size → (∀ cur, w.heap[q]? ≠ some (Obj.cells cur 64 (0, 0))) → w2.heap[q]? = w'.heap[q]?) → LSeg w2 a (mkL S.l k0)) := by
  rcases h.lv with h0 | ⟨b, P, Q, G, rfl, hw, hI⟩
  · rw [h0]
    refine (markLeaves0 a c k0 w).mono ?_
    rintro e w' ⟨rfl, rfl⟩
    exact ⟨rfl, Btw.refl _ _ _, fun _ _ _ => rfl, fun w2 _ _ => .inl (by rw [mkL_len, h0])⟩
  · refine (markLeavesK lo hi b c k0 S.l P Q G w hk hm.l1 hm.p1 hw (hI k0)).mono ?_
    rintro e w' ⟨rfl, hL⟩
    exact ⟨rfl, hL.low, hL.run, fun w2 h1 h2 => hL.seg hw h1 h2⟩
structure SMk (w : World) (a x : Option Addr) (S : Sx) (k0 : Nat) : Prop where
  lf : LSeg w a (mkL S.l k0)
  rn : RSeg w x S.n (mk3 (mP S.l k0 S.l.length) 0) (mk3 (mP S.l k0 S.l.length) 1) (mk3 (mP S.l k0 S.l.length) 2)
def SMkN (w : World) (lo hi : Nat) (a x : Option Addr) (S : Sx) (k0 : Nat) : Prop := ∀ w2 : World, w.heap.size ≤ w2.heap.size → (∀ q, lo ≤ q → q < hi → w2.heap[q]? = w.heap[q]?) → SMk w2 a x S k0
theorem SMkN.at {w : World} {lo hi : Nat} {a x : Option Addr} {S : Sx} {k0 : Nat} (h : SMkN w lo hi a x S k0) : SMk w a x S k0 := h w (Nat.le_refl _) (fun _ _ _ => rfl)
theorem SMk.below {w w' : World} {a x : Option Addr} {S : Sx} {k0 : Nat} (h : SMk w a x S k0) (hb : Below w.heap.size w w') : SMk w' a x S k0 := ⟨h.lf.below hb, h.rn.below hb⟩
def mE (S : Sx) (k0 : Nat) : Nat := mP S.l k0 S.l.length + 3 * S.n
theorem mE_le {S : Sx} (hm : S.Sm) (k0 : Nat) : mE S k0 ≤ k0 + 2000000000000 ∧ mP S.l k0 S.l.length ≤ k0 + 1500000000000 := by
  have h1 := mP_le (k0 := k0) hm.p1 S.l.length
  have h2 := hm.l1
  have h3 := hm.n1
  unfold mE; omega
theorem markStateO {lo hi : Nat} {a x : Option Addr} {c d : Nat} {S : Sx} {w : World} (h : SOw w lo hi a x d S) (hm : S.Sm) (k0 : Nat) (hk : k0 ≤ 4000000000000) :
    Calls Tryz.prog 10 #[.agg #[.slice a S.l.length c, .slice x S.n d], .int .i64 (k0 : Int)] w fun e w' => e = .returned (.int .i64 (mE S k0 : Int)) ∧ Btw lo hi w w' ∧ SMkN w' lo hi a x S k0 := by
  obtain ⟨W, hW⟩ : ∃ W, w.alloc (.cells #[.slice a S.l.length c, .slice x S.n d] 28) = W := ⟨_, rfl⟩
  have b0 : Below w.heap.size w W := by rw [← hW]; exact (Below.refl _ _).alloc (Nat.le_refl _) _
  have B0 : Bx2 W w.heap.size (.slice a S.l.length c) (.slice x S.n d) := by rw [← hW]; exact Bx2.made _ _ _ _
  have hW2 : SOw W lo hi a x d S := ⟨h.lf.below b0, h.rn.below b0, h.lv.imp id (fun ⟨b, P, Q, G, e, hw, hI⟩ => ⟨b, P, Q, G, e, hw, fun k0 => (hI k0).zero hw (fun q h1 h2 => b0.block q (Nat.lt_of_lt_of_le h2 h.hl.2))⟩), h.ro.imp id (fun ⟨g, ys, e, hg, ho⟩ => ⟨g, ys, e, hg, owns_below ho b0 (fun k hk => by simp [Value.ownBlock] at hk; subst hk; exact Nat.lt_of_lt_of_le hg h.hl.2)⟩), h.hl.1, Nat.le_trans h.hl.2 b0.size⟩
  have HM := hid (hW2.markL (c := c) hm k0 hk)
  have HS := hid hW2
  have k0' := B0.c0
  have k1' := B0.c1
  have HB := hid (Btw.below (lo := lo) (hi := hi) b0)
  have hle := mE_le hm k0
  have HX := hid B0
  have HH := hid h.hl
  have HEE : Hid (mE S k0 = mP S.l k0 S.l.length + 3 * S.n) := hid rfl
  obtain ⟨E, hE⟩ : ∃ E, mE S k0 = E := ⟨_, rfl⟩
  rw [hE] at HEE hle ⊢
  clear h b0 B0 hW2 hE
  go_enter Tryz.func10, Tryz.ntmps10
  go_wp2_with fail
  try rw [hW]
  clear hW
  refine HM.out.mono ?_
  rintro e w1 ⟨rfl, t1, hr1, hs1⟩
  have e1 := t1.block w.heap.size HX.out.lt (.inr HH.out.2)
  have r1 := (World.cell?_of_block (a := ⟨w.heap.size, 1, none⟩) e1).trans HX.out.c1
  have HT1 := hid t1
  have HR1 := hid hr1
  have HS1 := hid hs1
  obtain ⟨m, hm'⟩ : ∃ m, mP S.l k0 S.l.length = m := ⟨_, rfl⟩
  have HMM := hid hm'
  rw [hm'] at HEE hle ⊢
  have HMC : Hid (Calls Tryz.prog 20 #[.agg #[.slice x S.n d], .int .i64 (m : Int)] w1 fun e w' => e = .returned (.int .i64 (E : Int)) ∧ Btw lo hi w1 w' ∧ ∀ w2 : World, w'.heap.size ≤ w2.heap.size → (∀ q, lo ≤ q → q < hi → w2.heap[q]? = w'.heap[q]?) → RSeg w2 x S.n (mk3 m 0) (mk3 m 1) (mk3 m 2) ∧ LSeg w2 a (mkL S.l k0)) := hid (by
    rcases HS.out.ro with h0 | ⟨g, ys, rfl, hg, ho⟩
    · rw [h0] at HEE ⊢
      refine (markContext0 x d m w1 (by omega)).mono ?_
      rintro e w' ⟨rfl, b'⟩
      refine ⟨by rw [HEE.out]; simp, Btw.below b', fun w2 g1 g2 => ⟨.inl rfl, hs1 w2 (Nat.le_trans b'.size g1) (fun q h1 h2 h3 _ => (g2 q h1 h2).trans (b'.block q h3))⟩⟩
    · have hb := ho.2
      have hgg := ho.lt g rfl
      have ho1 : w1.ownsRow lo 64 3 (.slice (some ⟨g, 0, none⟩) S.n d) S.n ys := by
        obtain ⟨q1, q2⟩ := ho
        refine ⟨q1, ?_⟩
        rcases q2 with ⟨q2, _⟩ | ⟨g', cap, cur, e, hbg, hbb, r⟩
        · cases q2
        · exact .inr ⟨g', cap, cur, e, hbg, (hr1 g' cur hbb).trans hbb, r⟩
      have hrun : ∃ cur, W.heap[g]? = some (Obj.cells cur 64 (0, 0)) := by
        rcases hb with ⟨q2, _⟩ | ⟨g', cap, cur, e, hbg, hbb, r⟩
        · cases q2
        · injection e with e _ _; injection e with e; injection e with e _ _; subst e; exact ⟨cur, hbb⟩
      refine (markContext lo g S.n d m ys w1 (by have := t1.size; have := HS.out.hl; omega) (by omega) (by have := hm.n1; omega) ho1).mono ?_
      rintro e w' ⟨rfl, bl, rs, z', hq⟩
      refine ⟨by rw [HEE.out], ⟨bl.os, bl.tape, bl.output, z', fun q h1 h2 => hq q h1 (by omega)⟩, fun w2 g1 g2 => ⟨rs.same g1 (fun y hy => by have := Option.some.inj hy; rw [← this]; exact g2 g hgg.1 hg), hs1 w2 (Nat.le_trans z' g1) (fun q h1 h2 h3 h4 => (g2 q h1 h2).trans (hq q h3 (fun e => ?_)))⟩⟩
      rw [e] at h4
      obtain ⟨cur, hc⟩ := hrun
      exact h4 cur hc)
  clear t1 hr1 hs1 hm' HM k0' k1' e1 HX
  go_wp2_with fail
  refine HMC.out.mono ?_
  rintro e w2 ⟨rfl, t2, rsls⟩
  have HB2 := hid ((HB.out.trans HT1.out).trans t2)
  have HK : Hid (SMkN w2 lo hi a x S k0) := hid (fun w3 g1 g2 => ⟨(rsls w3 g1 g2).2, by rw [HMM.out]; exact (rsls w3 g1 g2).1⟩)
  clear t2 rsls HMC r1
  go_wp2_with fail
  go_ret
  exact ⟨rfl, HB2.out, HK.out⟩
theorem heldStateO {a x : Option Addr} {c d : Nat} {S : Sx} {w : World} (hm : S.Sm) (k0 : Nat) (hk : k0 ≤ 4000000000000) (h : SMk w a x S k0) :
    Calls Tryz.prog 11 #[.agg #[.slice a S.l.length c, .slice x S.n d], .int .i64 (k0 : Int)] w fun e w' => e = .returned (.int .i64 (mE S k0 : Int)) ∧ Below w.heap.size w w' := by
  obtain ⟨W, hW⟩ : ∃ W, w.alloc (.cells #[.slice a S.l.length c, .slice x S.n d] 28) = W := ⟨_, rfl⟩
  have b0 : Below w.heap.size w W := by rw [← hW]; exact (Below.refl _ _).alloc (Nat.le_refl _) _
  have B0 : Bx2 W w.heap.size (.slice a S.l.length c) (.slice x S.n d) := by rw [← hW]; exact Bx2.made _ _ _ _
  have hW2 := h.below b0
  have HM := hid (heldLeavesK a c k0 S.l W hk hm.l1 hm.p1 hW2.lf)
  have HRN := hid hW2.rn
  have k0' := B0.c0
  have k1' := B0.c1
  have HB := hid b0
  have hle := mE_le hm k0
  have hn1 := hm.n1
  have HX := hid B0
  have HEE : Hid (mE S k0 = mP S.l k0 S.l.length + 3 * S.n) := hid rfl
  obtain ⟨E, hE⟩ : ∃ E, mE S k0 = E := ⟨_, rfl⟩
  obtain ⟨m, hm'⟩ : ∃ m, mP S.l k0 S.l.length = m := ⟨_, rfl⟩
  rw [hE, hm'] at HEE
  rw [hE] at hle ⊢
  rw [hm'] at hle HM HRN
  clear h b0 B0 hW2 hE hm'
  have dm : decide ((m : Int) < 0) = false := by simp
  have dE : decide ((E : Int) < 0) = false := by simp
  go_enter Tryz.func11, Tryz.ntmps11
  go_wp2_with fail
  try rw [hW]
  clear hW
  refine HM.out.mono ?_
  rintro e w1 ⟨rfl, b1⟩
  have r1 := (HX.out.below b1 HX.out.lt).c1
  have HC := hid (heldContext x S.n d m w1 (by omega) (by omega) (HRN.out.below b1))
  rw [← HEE.out] at HC
  have HB1 := hid (keepS HB.out b1)
  clear b1 HM k0' k1' HX HRN
  go_wp2_with fail
  refine HC.out.mono ?_
  rintro e w2 ⟨rfl, b2⟩
  have HB2 := hid (keepS HB1.out b2)
  clear b2 HC r1
  go_wp2_with fail
  go_ret
  exact ⟨rfl, HB2.out⟩
end Go.Proofs.YtakmpmhjcngbbaaGreatDoor
namespace Go.Proofs.YtakmpmhjcngbbaaGreatDoor
open Go.ChangeShapes Go.WideShapes Go.ChangeAt Go.RowKit Go.Deep
theorem own_wrF {w : World} {B g n cap size : Nat} {e : TypeId} {C : Nat → Value} (h : w.ownsRow B e size (.slice (some ⟨g, 0, none⟩) n cap) n ((List.range (n * size)).map C)) : Wr w g e (n * size) C := by
  rcases h.2 with ⟨h0, _⟩ | ⟨g', cap', cur, hv, hbase, hb, h1, h2, h3, h4⟩
  · cases h0
  · have eg : g = g' := by injection hv with e1 _ _; exact congrArg Addr.block (Option.some.inj e1)
    rw [← eg] at hb
    refine ⟨cur, hb, ?_, fun j hj => ?_⟩
    · have := congrArg List.length h4
      simp at this
      omega
    · have e1 : (cur.toList.take (n * size))[j]? = ((List.range (n * size)).map C)[j]? := by rw [h4]
      rw [List.getElem?_take_of_lt hj] at e1
      rw [← Array.getElem?_toList, e1]
      simp [List.getElem?_range hj]
theorem copyRowE (t e : TypeId) (i : TypeInfo) (z : Value) (size bytes : Nat) (ht : Tryz.prog.underlying t = some (.slice e)) (hi : Tryz.prog.info? e = some i) (hz : i.zero = some z) (hsize : i.size = size) (hby : i.bytes = bytes) (hzs : z.cells.size = size) (hsz : 0 < size) (hb2 : bytes ≤ 64) (q g off m c : Nat) (C : Nat → Value) (w : World) (B : Nat) (hm : m ≤ 1048576) (ho : w.ownsRow B e size (.slice (some ⟨q, 0, none⟩) 0 0) 0 []) (hB : B ≤ w.heap.size) (hC : ∀ j, j < m * size → w.cell? ⟨g, off + j, none⟩ = some (C j)) (h1 : ∀ j, j < m * size → (C j).oneCell' = true) :
    ∃ q' cap w', (Builtin.append_ #[t, t] t #[.slice (some ⟨q, 0, none⟩) 0 0, .slice (some ⟨g, off, none⟩) m c]).run Tryz.prog w = .ok (.slice (some ⟨q', 0, none⟩) m cap) w' ∧ w'.ownsRow B e size (.slice (some ⟨q', 0, none⟩) m cap) m ((List.range (m * size)).map C) ∧ w.grownBy w' (some q) ∧ (q' = q ∨ q' = w.heap.size) := by
  obtain ⟨v', w', hr, h2, h3, h4, h5⟩ := run_append_own_at (P := Tryz.prog) w B t t e i z size bytes ht hi hz hsize hby hzs hsz (.slice (some ⟨q, 0, none⟩) 0 0) 0 [] ho ⟨g, off, none⟩ m c ((List.range (m * size)).map C) (by simp) (fun j u hj => by
    simp only [List.getElem?_map, Option.map_eq_some_iff] at hj
    obtain ⟨q, hq, rfl⟩ := hj
    have hlt : j < m * size := by
      rcases Nat.lt_or_ge j (m * size) with h | h
      · exact h
      · rw [List.getElem?_eq_none (by simpa using h)] at hq; cases hq
    rw [List.getElem?_range hlt] at hq
    have hq := Option.some.inj hq
    rw [← hq, addr_addP]; exact hC j hlt) (fun u hu => by
    obtain ⟨j, hj, rfl⟩ := List.mem_map.1 hu
    exact h1 j (by simpa using hj)) (by unfold maxLen; omega) (by
      have : m * bytes ≤ 1048576 * 64 := Nat.mul_le_mul hm hb2
      rw [Nat.zero_add]; omega) hB
  rw [Nat.zero_add, List.nil_append] at h2
  rcases h2.2 with ⟨hv, _⟩ | ⟨q', cap, cur, rfl, r⟩
  · have := h4.1 hv; exact absurd this.1 (by simp)
  · refine ⟨q', cap, w', hr, h2, h3, ?_⟩
    rcases h5 with h5 | h5
    · exact .inl (by simpa [Value.ownBlock] using h5)
    · exact .inr (by simpa [Value.ownBlock] using h5)
def lCp (l : List Lf) (P Q : Nat → Nat) (j : Nat) : Value :=
  if j % 5 = 0 then .slice (some ⟨P (j / 5), 0, none⟩) (gL l (j / 5)).p.length (Q (j / 5)) else if j % 5 = 1 then .bool (gL l (j / 5)).fl else if j % 5 = 2 then .int .i64 (gL l (j / 5)).r else if j % 5 = 3 then .int .i64 (gL l (j / 5)).q else .string (gL l (j / 5)).v
theorem lCp0 (l : List Lf) (P Q : Nat → Nat) (i : Nat) : lCp l P Q (i * 5) = .slice (some ⟨P i, 0, none⟩) (gL l i).p.length (Q i) ∧ lCp l P Q (i * 5 + 1) = .bool (gL l i).fl ∧ lCp l P Q (i * 5 + 2) = .int .i64 (gL l i).r ∧ lCp l P Q (i * 5 + 3) = .int .i64 (gL l i).q ∧ lCp l P Q (i * 5 + 4) = .string (gL l i).v := by
  unfold lCp
  refine ⟨?_, ?_, ?_, ?_, ?_⟩
  · rw [if_pos (by omega), show i * 5 / 5 = i by omega]
  · rw [if_neg (by omega), if_pos (by omega), show (i * 5 + 1) / 5 = i by omega]
  · rw [if_neg (by omega), if_neg (by omega), if_pos (by omega), show (i * 5 + 2) / 5 = i by omega]
  · rw [if_neg (by omega), if_neg (by omega), if_neg (by omega), if_pos (by omega), show (i * 5 + 3) / 5 = i by omega]
  · rw [if_neg (by omega), if_neg (by omega), if_neg (by omega), if_neg (by omega), show (i * 5 + 4) / 5 = i by omega]
theorem lCp_snoc (l : List Lf) (P Q : Nat → Nat) (k p q : Nat) : (List.range ((k + 1) * 5)).map (lCp l (fun i => if i = k then p else P i) (fun i => if i = k then q else Q i)) = (List.range (k * 5)).map (lCp l P Q) ++ [.slice (some ⟨p, 0, none⟩) (gL l k).p.length q, .bool (gL l k).fl, .int .i64 (gL l k).r, .int .i64 (gL l k).q, .string (gL l k).v] := by
  rw [show (k + 1) * 5 = k * 5 + 1 + 1 + 1 + 1 + 1 by omega]
  simp only [List.range_succ, List.map_append, List.map_cons, List.map_nil, List.append_assoc, List.cons_append, List.nil_append]
  obtain ⟨d0, d1, d2, d3, d4⟩ := lCp0 l (fun i => if i = k then p else P i) (fun i => if i = k then q else Q i) k
  rw [d0, d1, d2, d3, d4]
  simp only [if_pos]
  congr 1
  refine List.map_congr_left fun j hj => ?_
  have hj' : j < k * 5 := by simpa using hj
  unfold lCp
  have hne : j / 5 ≠ k := by omega
  simp only [if_neg hne]
theorem cell_five_new (w : World) (v0 v1 v2 v3 v4 : Value) (t : TypeId) : ∀ j u, [v0, v1, v2, v3, v4][j]? = some u → (w.alloc (.cells #[v0, v1, v2, v3, v4] t)).cell? ((⟨w.heap.size, 0, none⟩ : Addr).add j) = some u := by
  intro j u hj
  have hB := Bx5.new w v0 v1 v2 v3 v4 t
  rw [addr_addP, Nat.zero_add]
  match j, hj with
  | 0, hj => rw [hB.c0]; simpa using hj
  | 1, hj => rw [hB.c1]; simpa using hj
  | 2, hj => rw [hB.c2]; simpa using hj
  | 3, hj => rw [hB.c3]; simpa using hj
  | 4, hj => rw [hB.c4]; simpa using hj
  | j + 5, hj => simp at hj
end Go.Proofs.YtakmpmhjcngbbaaGreatDoor
