import Derived.Test.YtkhicohhahaahaaRrc
import Derived.Test.YtkhicohhahaahaaShel3
import Derived.Maps.RangeWalk
import Derived.Lib.OwnBridge
import Derived.Lib.RowBridge
import Derived.Sort.OwnSorted
namespace Go.Proofs.Ytkhicohhahaahaa
open Go.ChangeShapes Go.WideShapes Go.ChangeAt Go.RowKit Go.Maps
set_option linter.unusedVariables false
set_option linter.unusedSimpArgs false

def RrOk (R F T : Nat → Int) (n : Nat) (l : List Lf) (p : List ByteArray) : Prop := StOk R F T n l ∧ PthOk p
theorem sRow_enc (vs : List ByteArray) : sRow vs = (vs.map fun s => s.data.toList).map encStr := by
  simp [sRow, encStr, Function.comp_def]
theorem enc_sRow (xs : List (List UInt8)) : xs.map encStr = sRow (xs.map bs) := by
  simp [sRow, bs, encStr, Function.comp_def]
set_option maxRecDepth 100000 in
set_option maxHeartbeats 1000000 in
theorem sortS (B g c : Nat) (vs : List ByteArray) (w : World) (ho : w.ownsRow B 9 1 (.slice (some ⟨g, 0, none⟩) vs.length c) vs.length (sRow vs)) (hn : vs.length ≤ 1048576) :
    Calls Try.prog 26 #[.slice (some ⟨g, 0, none⟩) vs.length c] w fun e w' => e = .returned (.tuple #[]) ∧ (∃ zs, zs = (vs.map fun s => s.data.toList).mergeSort (fun x y => decide (x ≤ y)) ∧ zs.length = vs.length ∧ w'.ownsRow B 9 1 (.slice (some ⟨g, 0, none⟩) vs.length c) vs.length (zs.map encStr)) ∧ w.grownBy w' (some g) := by
  rw [sRow_enc] at ho
  obtain ⟨g', cap', e, _, hgl, _, _, _, hH⟩ := Lib.holds_of_ownsRow ho (by simp)
  injection e with e _ _
  injection e with e
  injection e with e
  subst e
  have hcon := Any.slices_Sort_string Try.sortS g 0 c (vs.map fun s => s.data.toList) w hH hgl (by simp; omega)
  change Calls Try.prog 26 _ _ _ at hcon
  rw [List.length_map] at hcon
  refine hcon.mono ?_
  rintro e w' ⟨rfl, n, os, rfl⟩
  have hl : ((vs.map fun s => s.data.toList).mergeSort fun x y => decide (x ≤ y)).length = (vs.map fun s => s.data.toList).length := List.length_mergeSort _
  rcases ho.2 with ⟨h0, _⟩ | ⟨g', cap', cur, hv, hbase, hb, h1, h2, h3, h4⟩
  · cases h0
  cases hv
  have hs := ownsRow_sorted (n := n) (os := os) hl hbase hb (by simpa using h1) h2 h3
  rw [List.length_map] at hs
  exact ⟨rfl, ⟨_, rfl, by rw [hl, List.length_map], hs⟩, grownBy_sorted _⟩
set_option maxRecDepth 100000 in
set_option maxHeartbeats 1000000 in
theorem compactSC (B g c : Nat) (zs : List (List UInt8)) (w : World) (ho : w.ownsRow B 9 1 (.slice (some ⟨g, 0, none⟩) zs.length c) zs.length (zs.map encStr)) (hn : zs.length ≤ 1048576) :
    Calls Try.prog 27 #[.slice (some ⟨g, 0, none⟩) zs.length c] w fun e w' => ∃ ts, ts = (Lib.compact zs).map bs ∧ e = .returned (.slice (some ⟨g, 0, none⟩) ts.length c) ∧ w'.ownsRow B 9 1 (.slice (some ⟨g, 0, none⟩) ts.length c) ts.length (sRow ts) ∧ ts.length ≤ zs.length ∧ w.grownBy w' (some g) := by
  obtain ⟨g', cap', e, _, hgl, hcap, _, _, hH⟩ := Lib.holds_of_ownsRow ho (by simp)
  injection e with e _ e3
  injection e with e
  injection e with e
  subst e
  subst e3
  have hcon := Any.slices_Compact_string Try.compactS g 0 c zs w hH (by omega) hcap
  change Calls Try.prog 27 _ _ _ at hcon
  refine hcon.mono ?_
  rintro e w' ⟨rfl, q, rfl⟩
  have hle := Lib.compact_length_le zs
  have hc := Lib.ownsRow_putRow (q := q) (k := (Lib.compact zs).length) (ys := Lib.compact zs ++ List.replicate (zs.length - (Lib.compact zs).length) []) ho (by simp; omega) hle
  rw [List.take_left] at hc
  refine ⟨_, rfl, by rw [List.length_map], ?_, by rw [List.length_map]; exact hle, ?_⟩
  · rw [List.length_map, ← enc_sRow]; exact hc
  · refine ⟨rfl, rfl, rfl, by simp [Sort.putRow, Sort.mapBlock, Sort.ahead], fun k hk hne => ?_⟩
    have : g ≠ k := fun e => hne (by rw [e])
    simp [Sort.putRow, Sort.mapBlock, Sort.ahead, Array.getElem?_modify, this]
set_option maxRecDepth 100000 in
set_option maxHeartbeats 1000000 in
theorem heldStrings (g n c k0 : Nat) (w : World) (hk : k0 + n ≤ 10000000000) (hn : n ≤ 1048576) (h : Wr w g 9 n (fun i => .string (mkT (k0 + i)))) :
    Calls Try.prog 14 #[.slice (some ⟨g, 0, none⟩) n c, .int .i64 (k0 : Int)] w fun e w' => e = .returned (.int .i64 ((k0 + n : Nat) : Int)) ∧ Below w.heap.size w w' := by
  have HW := hid h
  clear h
  go_enter Try.func14, Try.ntmps14
  go_wp2_with fail
  go_loopw [1, 5] (fun q i wr => ∃ (j m : Nat), j ≤ n ∧ m ≤ 10000000000 ∧ Hid (m = k0 + j) ∧ i = .int .i64 (j : Int) ∧ q = .int .i64 (m : Int) ∧ Hid (Below w.heap.size w wr)) (fun _ i _ => n - (intOf i).toNat)
  case atStart => exact ⟨0, k0, Nat.zero_le _, by omega, hid (by omega), rfl, rfl, hid (Below.refl _ _)⟩
  case round =>
    obtain ⟨j, m, hj, hm, HM, rfl, rfl, HB⟩ := hrel
    by_cases hlt : j < n
    · have i1 : (0 : Int) ≤ (j : Int) := Int.natCast_nonneg _
      have i2 : (j : Int) < (n : Int) := by omega
      have W1 := HW.out.same (HB.out.block g HW.out.lt)
      have zg : g < wr.heap.size := W1.lt
      have c0 := W1.cell (i := j) hlt
      have e0 : mkT (k0 + j) = mkT m := by rw [HM.out]
      rw [e0] at c0
      obtain ⟨s, hs⟩ : ∃ s, mkT m = s := ⟨_, rfl⟩
      rw [hs] at c0
      have HT : Hid (∀ w1, Calls Try.prog 32 #[.int .i64 (m : Int)] w1 fun e w' => e = .returned (.string s) ∧ Below w1.heap.size w1 w') := hid (fun w1 => by rw [← hs]; exact markTextC m w1 (by omega))
      have hss : (s.toList == s.toList) = true := by simp
      clear hs e0 W1
      go_wp2_with fail
      have HCS : Hid (∀ w', Below wr.heap.size wr w' → (Below wr.heap.size wr w' ∧ w'.cell? ⟨g, j, none⟩ = some (.string s))) := hid (fun w' hB => ⟨hB, (hB.cell (p := ⟨g, _, none⟩) zg).trans c0⟩)
      refine wp_region_held_drew (S := fun w' => Below wr.heap.size wr w' ∧ w'.cell? ⟨g, j, none⟩ = some (.string s)) (by kernel_rfl) (HCS.out _ (Below.refl _ _).drew) (fun hHeld => ?_)
      refine take1 (i := 0) (d := some 12) (v := ?_) (by kernel_rfl) (by kernel_rfl) (by kernel_rfl) (by kernel_rfl) (fun _ _ _ h => h) ?_ hHeld ?_
      rotate_left
      · (intro o ho; simp only [List.getElem?_toArray, List.getElem?_cons_succ, List.getElem?_cons_zero, Option.some.injEq] at ho; subst ho; refine Or.inl ⟨by rfl, ?_⟩; intro w hSw; (try dsimp only at hSw); go_simp; try with_reducible rfl)
      try simp only [Act.put, List.setIfInBounds_toArray, List.set_cons_zero, List.set_cons_succ]
      refine take1 (i := 1) (d := some 13) (v := ?_) (by kernel_rfl) (by kernel_rfl) (by kernel_rfl) (by kernel_rfl) (fun _ _ _ h => h) ?_ hHeld ?_
      rotate_left
      · (intro o ho; simp only [List.getElem?_toArray, List.getElem?_cons_succ, List.getElem?_cons_zero, Option.some.injEq] at ho; subst ho; refine Or.inl ⟨by rfl, ?_⟩; intro w hSw; (try dsimp only at hSw); go_simp; try with_reducible rfl)
      try simp only [Act.put, List.setIfInBounds_toArray, List.set_cons_zero, List.set_cons_succ]
      refine take1 (i := 2) (d := some 14) (v := ?_) (by kernel_rfl) (by kernel_rfl) (by kernel_rfl) (by kernel_rfl) (fun _ _ _ h => h) ?_ hHeld ?_
      rotate_left
      · (intro o ho; simp only [List.getElem?_toArray, List.getElem?_cons_succ, List.getElem?_cons_zero, Option.some.injEq] at ho; subst ho; refine Or.inl ⟨by rfl, ?_⟩; intro w hSw; (try dsimp only at hSw); go_simp; try with_reducible rfl)
      try simp only [Act.put, List.setIfInBounds_toArray, List.set_cons_zero, List.set_cons_succ]
      refine take1 (i := 3) (d := some 15) (v := ?_) (by kernel_rfl) (by kernel_rfl) (by kernel_rfl) (by kernel_rfl) (fun _ _ _ h => h) ?_ hHeld ?_
      rotate_left
      · (intro o ho; simp only [List.getElem?_toArray, List.getElem?_cons_succ, List.getElem?_cons_zero, Option.some.injEq] at ho; subst ho; refine Or.inl ⟨by rfl, ?_⟩; intro w hSw; (try dsimp only at hSw); go_simp; try with_reducible rfl)
      try simp only [Act.put, List.setIfInBounds_toArray, List.set_cons_zero, List.set_cons_succ]
      refine take1 (i := 4) (d := some 16) (v := ?_) (by kernel_rfl) (by kernel_rfl) (by kernel_rfl) (by kernel_rfl) (fun _ _ _ h => h) ?_ hHeld ?_
      rotate_left
      · (intro o ho; simp only [List.getElem?_toArray, List.getElem?_cons_succ, List.getElem?_cons_zero, Option.some.injEq] at ho; subst ho; refine Or.inl ⟨by rfl, ?_⟩; intro w hSw; (try dsimp only at hSw); go_simp; try with_reducible rfl)
      try simp only [Act.put, List.setIfInBounds_toArray, List.set_cons_zero, List.set_cons_succ]
      refine call1 (i := 5) (d := some 17) (by kernel_rfl) (by kernel_rfl) ?_
      intro o ho hod K hK; simp only [List.getElem?_toArray, List.getElem?_cons_succ, List.getElem?_cons_zero, Option.some.injEq] at ho; subst ho
      go_simp
      refine (HT.out _).mono ?_
      rintro e w2 ⟨rfl, b2⟩
      have hB := keepS hHeld.1 b2
      refine hK.out _ _ (HCS.out _ hB) (fun hHeld => ?_)
      clear hK K
      try simp only [Act.put, List.setIfInBounds_toArray, List.set_cons_zero, List.set_cons_succ]
      refine take1 (i := 6) (d := some 18) (v := ?_) (by kernel_rfl) (by kernel_rfl) (by kernel_rfl) (by kernel_rfl) (fun _ _ _ h => h) ?_ hHeld ?_
      rotate_left
      · (intro o ho; simp only [List.getElem?_toArray, List.getElem?_cons_succ, List.getElem?_cons_zero, Option.some.injEq] at ho; subst ho; refine Or.inl ⟨by rfl, ?_⟩; intro w hSw; (try dsimp only at hSw); go_simp; try with_reducible rfl)
      try simp only [Act.put, List.setIfInBounds_toArray, List.set_cons_zero, List.set_cons_succ]
      refine wpAnyH_done (by kernel_rfl) ?_ _
      have HZ := hid (HB.out.trans (hB.mono HB.out.size))
      clear hHeld hB b2
      go_wp2_with fail
      go_roundw
      case rel => exact ⟨j + 1, m + 1, hlt, by have := HM.out; omega, hid (by have := HM.out; omega), by go_num, by go_num, HZ⟩
      case measure => simp [intOf]; omega
    · obtain rfl : j = n := by omega
      go_wp2_with fail
      go_ret
      exact ⟨by rw [← HM.out]; rfl, HB.out⟩
end Go.Proofs.Ytkhicohhahaahaa
