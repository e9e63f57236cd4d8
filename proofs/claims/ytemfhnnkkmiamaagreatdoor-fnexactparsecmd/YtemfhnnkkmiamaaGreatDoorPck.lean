import Derived.Test.YtemfhnnkkmiamaaGreatDoorPcj
import Derived.Laws.IdiomStrings
namespace Go.Proofs.YtemfhnnkkmiamaaGreatDoor
open Go.ChangeShapes Go.WideShapes Go.ChangeAt Go.RowKit
set_option linter.unusedVariables false
set_option linter.unusedSimpArgs false

theorem bytesCell (s : ByteArray) (c i : Nat) (h : i < s.size) : (bytesRow s c)[i]? = some (.int .u8 (s[i].toNat : Int)) := by
  have h' : i < s.data.size := h
  unfold bytesRow
  rw [Array.getElem?_append_left (by simpa using h')]
  rw [Array.getElem?_map, Array.getElem?_eq_getElem h']
  rfl
theorem bytesMade (w : World) (s : ByteArray) (c : Nat) (t : TypeId) (f : Nat × Nat) : Below w.heap.size w (w.drew.alloc (.cells (bytesRow s c) t f)) ∧ ∀ i (h : i < s.size), (w.drew.alloc (.cells (bytesRow s c) t f)).cell? ⟨w.heap.size, i, none⟩ = some (.int .u8 (s[i].toNat : Int)) := by
  refine ⟨((Below.refl _ _).drew).alloc (by simp) _, fun i h => ?_⟩
  exact (World.cell?_alloc_mark w.drew _ t f i).trans (bytesCell s c i h)
set_option maxRecDepth 100000 in
set_option maxHeartbeats 2000000 in
theorem readNumberC (s : ByteArray) (d most : Int) (w : World) (hs : s.size ≤ 1048576) (hd : d ≤ 5) :
    Calls Tryz.prog 66 #[.string s, .int .i64 d, .int .i64 most] w fun e w' => e = .returned (.tuple #[.int .i64 ((numR s d most).getD 0), .bool (numR s d most).isSome]) ∧ Below w.heap.size w w' := by
  obtain ⟨R, hR⟩ : ∃ R, numR s d most = R := ⟨_, rfl⟩
  rw [hR]
  have HR := hid hR
  clear hR
  go_enter Tryz.func66, Tryz.ntmps66
  by_cases h1 : s.size < 1
  · have HE : Hid (R = none) := hid (by
      rw [← HR.out]
      refine num_none (.inl ?_)
      unfold decF
      rw [decide_eq_false (show ¬ 1 ≤ s.size by omega)]
      simp)
    have j1 : (s.size : Int) < 1 := by omega
    go_wp2_with fail
    refine bodyPost_ret (v := .tuple #[.int .i64 0, .bool false]) (by simp [results, Tryz.results66, go_sem]) rfl ?_
    rw [HE.out]
    exact ⟨rfl, Below.refl _ _⟩
  · have j1 : ¬ (s.size : Int) < 1 := by omega
    by_cases h2 : (s.size : Int) > d
    · have HE : Hid (R = none) := hid (by
        rw [← HR.out]
        refine num_none (.inl ?_)
        unfold decF
        rw [decide_eq_false (show ¬ (s.size : Int) ≤ d by omega)]
        simp)
      have h2' : d < (s.size : Int) := h2
      go_wp2_with fail
      refine bodyPost_ret (v := .tuple #[.int .i64 0, .bool false]) (by simp [results, Tryz.results66, go_sem]) rfl ?_
      rw [HE.out]
      exact ⟨rfl, Below.refl _ _⟩
    · have h2' : (s.size : Int) ≤ d := by omega
      go_wp2_with fail
      rw [run_bytes_of_string w 9 93 5 s (by rfl) (by rfl) (by rfl)]
      obtain ⟨c, hc⟩ : ∃ c, grownCap w s.size 0 5 = c := ⟨_, rfl⟩
      rw [hc]
      clear hc
      obtain ⟨B1, C1⟩ := bytesMade w s c 5 ((bytesRow s c).size, (bytesRow s c).size + 1)
      obtain ⟨w1, hw1⟩ : ∃ w1, w.drew.alloc (.cells (bytesRow s c) 5 ((bytesRow s c).size, (bytesRow s c).size + 1)) = w1 := ⟨_, rfl⟩
      rw [hw1] at B1 C1 ⊢
      have HB1 := hid B1
      have HC1 := hid C1
      clear B1 C1 hw1
      have hs5 : s.size ≤ 5 := by omega
      have HS1 : Hid (1 ≤ s.size) := hid (by omega)
      clear h2 h1 j1
      go_wp2_with fail
      go_loop [8, 23] (fun v i => ∃ (k : Nat) (n : Int), k ≤ s.size ∧ i = .int .i64 k ∧ v = .int .i64 n ∧ Hid ((s.data.toList.take k).all digB = true) ∧ 0 ≤ n ∧ n ≤ 99999 ∧ Hid (n = dV (s.data.toList.take k))) (fun _ i => s.size - (intOf i).toNat)
      case atStart => exact ⟨0, 0, Nat.zero_le _, rfl, rfl, hid (by simp), by omega, by omega, hid (by simp [dV])⟩
      case round =>
        obtain ⟨k, n, hk, rfl, rfl, HG, hn0, hn1, HV⟩ := hrel
        by_cases hlt : k < s.size
        · have i1 : (0 : Int) ≤ (k : Int) := Int.natCast_nonneg _
          have i2 : (k : Int) < (s.size : Int) := by omega
          have HT := hid (take_at (byte_at hlt))
          have c0 := HC1.out k hlt
          obtain ⟨b, hb2⟩ : ∃ b, s[k] = b := ⟨_, rfl⟩
          rw [hb2] at HT c0
          have hbad : digB b = false → Hid (R = none) := fun h => hid (by
            rw [← HR.out]
            refine num_none (.inl ?_)
            unfold decF
            have : s.data.toList.all digB = false := by
              rw [List.all_eq_false]
              refine ⟨b, ?_, ?_⟩
              · rw [← hb2]; exact List.mem_of_getElem? (byte_at hlt)
              · rw [h]; simp
            rw [this]; simp)
          have hm255 := b.toNat_lt
          by_cases h1 : b.toNat < 48
          · have HE := hbad (by unfold digB; simp; omega)
            clear hbad hb2
            obtain ⟨m, hm2⟩ : ∃ m : Nat, b.toNat = m := ⟨_, rfl⟩
            rw [hm2] at c0 h1
            have d1 : (m : Int) < 48 := by omega
            go_wp2_with fail
            refine bodyPost_ret (v := .tuple #[.int .i64 0, .bool false]) (by simp [results, Tryz.results66, go_sem]) rfl ?_
            rw [HE.out]
            exact ⟨rfl, HB1.out⟩
          · by_cases h2 : 57 < b.toNat
            · have HE := hbad (by unfold digB; simp; omega)
              clear hbad hb2
              obtain ⟨m, hm2⟩ : ∃ m : Nat, b.toNat = m := ⟨_, rfl⟩
              rw [hm2] at c0 h1 h2
              have d1 : ¬ (m : Int) < 48 := by omega
              have d2 : (m : Int) > 57 := by omega
              go_wp2_with fail
              refine bodyPost_ret (v := .tuple #[.int .i64 0, .bool false]) (by simp [results, Tryz.results66, go_sem]) rfl ?_
              rw [HE.out]
              exact ⟨rfl, HB1.out⟩
            · have HG2 : Hid ((s.data.toList.take (k + 1)).all digB = true) := hid (by
                rw [HT.out, List.all_append, HG.out]
                simp [digB]; omega)
              have HV2 : Hid (10 * n + ((b.toNat : Int) - 48) = dV (s.data.toList.take (k + 1))) := hid (by rw [HT.out, dV_snoc, ← HV.out]; omega)
              have hbd := dV_bd _ HG2.out (by rw [List.length_take]; omega)
              rw [← HV2.out] at hbd
              clear hbad hb2
              obtain ⟨m, hm2⟩ : ∃ m : Nat, b.toNat = m := ⟨_, rfl⟩
              rw [hm2] at c0 h1 h2 HV2 hbd
              have d1 : ¬ (m : Int) < 48 := by omega
              have d2 : ¬ (m : Int) > 57 := by omega
              have d3 : IntKind.u8.wrap ((m : Int) - 48) = (m : Int) - 48 := by rw [IntKind.wrap_u8]; omega
              have d4 : IntKind.i64.wrap ((m : Int) - 48) = (m : Int) - 48 := by rw [IntKind.wrap_i64]; omega
              have HBD := hid hbd
              clear hbd
              go_wp2_with fail
              go_round
              case rel => exact ⟨k + 1, _, hlt, by go_num, rfl, HG2, HBD.out.1, HBD.out.2, HV2⟩
              case measure => simp [intOf]; omega
        · obtain rfl : k = s.size := by omega
          have hal : s.data.toList.all digB = true := by
            have := HG.out
            rwa [List.take_of_length_le (by simp)] at this
          have HD : Hid (n = decF s d) := hid (by
            rw [HV.out]
            unfold decF
            rw [hal, List.take_of_length_le (by simp), if_pos]
            have := HS1.out
            simp; omega)
          clear hal
          by_cases hB : n > most
          · have HE : Hid (R = none) := hid (by rw [← HR.out]; exact num_none (.inr (by rw [← HD.out]; exact hB)))
            have i4 : most < n := hB
            go_wp2_with fail
            refine bodyPost_ret (v := .tuple #[.int .i64 0, .bool false]) (by simp [results, Tryz.results66, go_sem]) rfl ?_
            rw [HE.out]
            exact ⟨rfl, HB1.out⟩
          · have HE : Hid (R = some n) := hid (by rw [← HR.out, num_some (by rw [← HD.out]; omega) (by rw [← HD.out]; exact hB), HD.out])
            have i4 : n ≤ most := by omega
            go_wp2_with fail
            refine bodyPost_ret (v := .tuple #[.int .i64 n, .bool true]) (by simp [results, Tryz.results66, go_sem]) rfl ?_
            rw [HE.out]
            exact ⟨rfl, HB1.out⟩
end Go.Proofs.YtemfhnnkkmiamaaGreatDoor
