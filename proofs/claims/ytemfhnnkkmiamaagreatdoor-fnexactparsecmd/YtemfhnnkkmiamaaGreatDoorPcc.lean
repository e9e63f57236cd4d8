import Derived.Test.YtemfhnnkkmiamaaGreatDoorPcb
namespace Go.Proofs.YtemfhnnkkmiamaaGreatDoor
open Go.ChangeShapes Go.WideShapes Go.ChangeAt Go.RowKit
set_option linter.unusedVariables false
set_option linter.unusedSimpArgs false

set_option maxRecDepth 100000 in
set_option maxHeartbeats 2000000 in
theorem l7CutC (s : ByteArray) (c : UInt8) (w : World) (hs : s.size ≤ 1048576) :
    Calls Tryz.prog 9 #[.string s, .int .u8 (c.toNat : Int)] w fun e w' => ∃ v, e = .returned v ∧ SO w' w.heap.size v (cutW c s) ∧ Below w.heap.size w w' := by
  obtain ⟨W, hW⟩ : ∃ W, w.alloc (.cells #[] 9) = W := ⟨_, rfl⟩
  have b0 : Below w.heap.size w W := by rw [← hW]; exact (Below.refl _ _).alloc (Nat.le_refl _) _
  have HO0 : Hid (SO W w.heap.size (.slice (some ⟨w.heap.size, 0, none⟩) 0 0) []) := hid (by rw [← hW]; exact SO.new _)
  have HB0 := hid b0
  clear b0
  go_enter Tryz.func9, Tryz.ntmps9
  go_wp2_with fail
  try rw [hW]
  clear hW
  go_loopw [5, 6, 7] (fun o f i wr => ∃ (k fr : Nat) (ts : List ByteArray), k ≤ s.size + 1 ∧ i = .int .i64 k ∧ f = .int .i64 fr ∧ Hid (CtI c s k fr ts) ∧ Hid (SO wr w.heap.size o ts) ∧ Hid (Below w.heap.size w wr)) (fun _ _ i _ => s.size + 1 - (intOf i).toNat)
  case atStart => exact ⟨0, 0, [], by omega, rfl, rfl, hid (CtI.start c s), HO0, HB0⟩
  case round =>
    clear HO0 HB0
    obtain ⟨k, fr, ts, hk, rfl, rfl, HC, HO, HB⟩ := hrel
    by_cases hle : k ≤ s.size
    · have i1 : (k : Int) ≤ (s.size : Int) := by omega
      have hfr := (HC.out.go hle).1
      have i2 : (0 : Int) ≤ (fr : Int) := Int.natCast_nonneg _
      have i3 : (fr : Int) ≤ (k : Int) := by omega
      have hln := HC.out.len
      by_cases hq : k = s.size
      · subst hq
        obtain ⟨v5, w5, happ, o5, b5⟩ := strApp1 w.heap.size wr u5 ts (s.extract fr s.size) HO.out HB.out.size (by omega)
        have HB5 := hid (HB.out.trans b5)
        have HO5 := hid o5
        have HC5 := hid HC.out.last
        have e1 : ((s.size : Int) == (s.size : Int)) = true := by simp
        clear o5 b5
        go_wp2_with (at_builtin; refine wpList_app2 rfl _ _ _ _ rfl happ (by rfl) (by rfl) rfl ?_; clear happ)
        go_roundw
        case rel => exact ⟨s.size + 1, s.size + 1, _, by omega, by go_num, by go_num, HC5, HO5, HB5⟩
        case measure => simp [intOf]
      · have e1 : ((k : Int) == (s.size : Int)) = false := by simp; omega
        have hlt : k < s.size := by omega
        have i4 : (k : Int) < (s.size : Int) := by omega
        have HL : Hid (s.data.toList[k]? = some s[k]) := hid (by
          rw [List.getElem?_eq_getElem (by simpa using hlt)]
          rfl)
        clear hq
        by_cases hc : s[k] = c
        · obtain ⟨v5, w5, happ, o5, b5⟩ := strApp1 w.heap.size wr u5 ts (s.extract fr k) HO.out HB.out.size (by omega)
          have HB5 := hid (HB.out.trans b5)
          have HO5 := hid o5
          have HC5 := hid (HC.out.hit hlt (by rw [HL.out, hc]))
          have e2 : (((s[k].toNat : Nat) : Int) == ((c.toNat : Nat) : Int)) = true := by rw [hc]; simp
          clear o5 b5 hc
          go_wp2_with (at_builtin; refine wpList_app2 rfl _ _ _ _ rfl happ (by rfl) (by rfl) rfl ?_; clear happ)
          go_roundw
          case rel => exact ⟨k + 1, k + 1, _, by omega, by go_num, by go_num, HC5, HO5, HB5⟩
          case measure => simp [intOf]; omega
        · have HC5 := hid (HC.out.miss hlt (by rw [HL.out]; exact fun e => hc (Option.some.inj e)))
          have e2 : (((s[k].toNat : Nat) : Int) == ((c.toNat : Nat) : Int)) = false := by
            rw [beq_eq_false_iff_ne]
            intro e
            exact hc (UInt8.toNat_inj.1 (by omega))
          clear hc
          go_wp2_with fail
          go_roundw
          case rel => exact ⟨k + 1, fr, ts, by omega, by go_num, rfl, HC5, HO, HB⟩
          case measure => simp [intOf]; omega
    · obtain rfl : k = s.size + 1 := by omega
      have i1 : ¬ ((s.size + 1 : Nat) : Int) ≤ (s.size : Int) := by omega
      have HE := hid (HC.out.fin rfl)
      go_wp2_with fail
      go_ret
      exact ⟨u5, rfl, by rw [← HE.out]; exact HO.out, HB.out⟩
end Go.Proofs.YtemfhnnkkmiamaaGreatDoor
