import Derived.Test.YtemfhnnkkmiamaaGreatDoorPcd
namespace Go.Proofs.YtemfhnnkkmiamaaGreatDoor
open Go.ChangeShapes Go.WideShapes Go.ChangeAt Go.RowKit
set_option linter.unusedVariables false
set_option linter.unusedSimpArgs false

def digB (b : UInt8) : Bool := decide (48 ≤ b.toNat) && decide (b.toNat ≤ 57)
def dV (l : List UInt8) : Int := l.foldl (fun v b => v * 10 + ((b.toNat : Int) - 48)) 0
def decF (s : ByteArray) (most : Int) : Int := if s.data.toList.all digB && (decide (1 ≤ s.size) && decide ((s.size : Int) ≤ most)) then dV s.data.toList else -1
theorem dV_snoc (l : List UInt8) (b : UInt8) : dV (l ++ [b]) = dV l * 10 + ((b.toNat : Int) - 48) := by simp [dV]
theorem take_at {l : List UInt8} {k : Nat} {b : UInt8} (h : l[k]? = some b) : l.take (k + 1) = l.take k ++ [b] := by
  rw [List.take_add_one, h]; rfl
theorem byte_at {s : ByteArray} {k : Nat} (h : k < s.size) : s.data.toList[k]? = some s[k] := by
  rw [List.getElem?_eq_getElem (by simpa using h)]
  rfl
theorem dV_fold : ∀ (l : List UInt8) (v B : Int), l.all digB = true → 0 ≤ v → v < B → 0 ≤ l.foldl (fun v b => v * 10 + ((b.toNat : Int) - 48)) v ∧ l.foldl (fun v b => v * 10 + ((b.toNat : Int) - 48)) v < B * 10 ^ l.length
  | [], v, B, _, h1, h2 => by simp; omega
  | b :: l, v, B, h, h1, h2 => by
    simp only [List.all_cons, Bool.and_eq_true] at h
    have hb := h.1
    unfold digB at hb
    simp only [Bool.and_eq_true, decide_eq_true_eq] at hb
    have ih := dV_fold l (v * 10 + ((b.toNat : Int) - 48)) (B * 10) h.2 (by omega) (by omega)
    rw [List.foldl_cons, List.length_cons]
    refine ⟨ih.1, ?_⟩
    have e : B * 10 ^ (l.length + 1) = B * 10 * 10 ^ l.length := by rw [Int.pow_succ, Int.mul_assoc, Int.mul_comm (10 ^ l.length) 10]
    rw [e]; exact ih.2
theorem dV_bd (l : List UInt8) (h1 : l.all digB = true) (h2 : l.length ≤ 5) : 0 ≤ dV l ∧ dV l ≤ 99999 := by
  have h := dV_fold l 0 1 h1 (by omega) (by omega)
  refine ⟨h.1, ?_⟩
  have h3 : dV l < 1 * 10 ^ l.length := h.2
  obtain ⟨n, hn⟩ : ∃ n, l.length = n := ⟨_, rfl⟩
  rw [hn] at h3 h2
  rcases (show n = 0 ∨ n = 1 ∨ n = 2 ∨ n = 3 ∨ n = 4 ∨ n = 5 by omega) with rfl | rfl | rfl | rfl | rfl | rfl <;> simp at h3 <;> omega
set_option maxRecDepth 100000 in
set_option maxHeartbeats 2000000 in
theorem l7DecimalC (s : ByteArray) (most : Int) (w : World) (hs : s.size ≤ 1048576) (hm : most ≤ 5) :
    Calls Tryz.prog 11 #[.string s, .int .i64 most] w fun e w' => e = .returned (.int .i64 (decF s most)) ∧ w' = w := by
  obtain ⟨D, hD⟩ : ∃ D, decF s most = D := ⟨_, rfl⟩
  rw [hD]
  have HD := hid hD
  clear hD
  go_enter Tryz.func11, Tryz.ntmps11
  go_wp2_with fail
  go_loop [5, 6] (fun v i => ∃ (k : Nat) (n : Int), k ≤ s.size ∧ i = .int .i64 k ∧ v = .int .i64 n ∧ Hid ((s.data.toList.take k).all digB = true) ∧ Hid (k ≤ 5 → n = dV (s.data.toList.take k))) (fun _ i => s.size - (intOf i).toNat)
  case atStart => exact ⟨0, 0, Nat.zero_le _, rfl, rfl, hid (by simp), hid (fun _ => by simp [dV])⟩
  case round =>
    obtain ⟨k, n, hk, rfl, rfl, HG, HV⟩ := hrel
    by_cases hlt : k < s.size
    · have i1 : (0 : Int) ≤ (k : Int) := Int.natCast_nonneg _
      have i2 : (k : Int) < (s.size : Int) := by omega
      have HT := hid (take_at (byte_at hlt))
      obtain ⟨b, hb⟩ : ∃ b, s[k] = b := ⟨_, rfl⟩
      rw [hb] at HT
      by_cases h1 : b.toNat < 48
      · have d1 : (b.toNat : Int) < 48 := by omega
        have HE : Hid (-1 = D) := hid (by
          rw [← HD.out]
          unfold decF
          have : s.data.toList.all digB = false := by
            rw [List.all_eq_false]
            refine ⟨b, ?_, ?_⟩
            · rw [← hb]; exact List.mem_of_getElem? (byte_at hlt)
            · unfold digB; simp; omega
          rw [this]; rfl)
        go_wp2_with fail
        go_ret
        exact ⟨ret_int HE.out, rfl⟩
      · by_cases h2 : 57 < b.toNat
        · have d1 : ¬ (b.toNat : Int) < 48 := by omega
          have d2 : (b.toNat : Int) > 57 := by omega
          have HE : Hid (-1 = D) := hid (by
            rw [← HD.out]
            unfold decF
            have : s.data.toList.all digB = false := by
              rw [List.all_eq_false]
              refine ⟨b, ?_, ?_⟩
              · rw [← hb]; exact List.mem_of_getElem? (byte_at hlt)
              · unfold digB; simp; omega
            rw [this]; rfl)
          go_wp2_with fail
          go_ret
          exact ⟨ret_int HE.out, rfl⟩
        · have d1 : ¬ (b.toNat : Int) < 48 := by omega
          have d2 : ¬ (b.toNat : Int) > 57 := by omega
          have HG2 : Hid ((s.data.toList.take (k + 1)).all digB = true) := hid (by
            rw [HT.out, List.all_append, HG.out]
            simp [digB]; omega)
          by_cases h5 : k < 5
          · have hn := HV.out (by omega)
            have hbd := dV_bd _ HG.out (by rw [List.length_take]; omega)
            have hn0 : 0 ≤ n := by rw [hn]; exact hbd.1
            have hn1 : n ≤ 99999 := by rw [hn]; exact hbd.2
            have HV2 : Hid (n * 10 + ((b.toNat : Int) - 48) = dV (s.data.toList.take (k + 1))) := hid (by rw [HT.out, dV_snoc, hn])
            obtain ⟨m, hm2⟩ : ∃ m : Nat, b.toNat = m := ⟨_, rfl⟩
            rw [hm2] at d1 d2 HV2 h1 h2
            clear hn hbd
            go_wp2_with fail
            go_round
            case rel => exact ⟨k + 1, _, hlt, by go_num, rfl, HG2, hid (fun _ => HV2.out)⟩
            case measure => simp [intOf]; omega
          · obtain ⟨m, hm2⟩ : ∃ m : Nat, b.toNat = m := ⟨_, rfl⟩
            rw [hm2] at d1 d2 h1 h2
            go_wp2_with fail
            go_round
            case rel => exact ⟨k + 1, _, hlt, by go_num, rfl, HG2, hid (fun h => by omega)⟩
            case measure => simp [intOf]; omega
    · obtain rfl : k = s.size := by omega
      have hal : s.data.toList.all digB = true := by
        have := HG.out
        rwa [List.take_of_length_le (by simp)] at this
      by_cases hA : s.size < 1
      · have i3 : (s.size : Int) < 1 := by omega
        have HE : Hid (-1 = D) := hid (by rw [← HD.out]; unfold decF; rw [hal]; simp; omega)
        go_wp2_with fail
        go_ret
        exact ⟨ret_int HE.out, rfl⟩
      · have i3 : ¬ (s.size : Int) < 1 := by omega
        by_cases hB : (s.size : Int) ≤ most
        · have i4 : ¬ (s.size : Int) > most := by omega
          have HE : Hid (n = D) := hid (by
            rw [← HD.out, HV.out (by omega)]
            unfold decF
            rw [hal, List.take_of_length_le (by simp), if_pos]
            simp; omega)
          go_wp2_with fail
          go_ret
          exact ⟨ret_int HE.out, rfl⟩
        · have i4 : (s.size : Int) > most := by omega
          have HE : Hid (-1 = D) := hid (by rw [← HD.out]; unfold decF; rw [hal]; simp; omega)
          go_wp2_with fail
          go_ret
          exact ⟨ret_int HE.out, rfl⟩
end Go.Proofs.YtemfhnnkkmiamaaGreatDoor
