import Derived.Test.YthkppnmnjboiaaaDoorRd2
import Derived.Test.YthkppnmnjboiaaaDoorWt
namespace Go.Proofs.YthkppnmnjboiaaaDoor
open Go.ChangeShapes Go.WideShapes Go.ChangeAt Go.RowKit
set_option linter.unusedVariables false
set_option linter.unusedSimpArgs false

set_option maxRecDepth 100000 in
set_option maxHeartbeats 1000000 in
theorem rdRepeat (s : ByteArray) (n : Nat) (w : World) (hs : s.size ≤ 1) (hn : n ≤ 1000) :
    Calls Tryd.prog 13 #[.string s, .int .i64 (n : Int)] w fun e w' => ∃ t : ByteArray, t.size ≤ 1000 ∧ e = .returned (.string t) ∧ Below w.heap.size w w' := by
  obtain ⟨i0, hi, hz0, hz1, hz2⟩ := info_parts Tryd.infoByte
  have HE := hid (rowE w w.heap.size (Nat.le_refl _))
  have HB0 := hid ((Below.refl w.heap.size w).alloc (Nat.le_refl _) (.cells #[] 5))
  go_enter Tryd.func13, Tryd.ntmps13
  go_wp2_with fail
  go_loopw [5, 6] (fun b i wr => ∃ (j : Nat) (zs : List Int), j ≤ n ∧ zs.length ≤ j ∧ i = .int .i64 (j : Int) ∧ Hid (Own wr w.heap.size b zs) ∧ Hid (∀ z ∈ zs, 0 ≤ z ∧ z < 256) ∧ Hid (Below w.heap.size w wr)) (fun _ i _ => n - (intOf i).toNat)
  case atStart => exact ⟨0, [], Nat.zero_le _, Nat.zero_le _, rfl, HE, hid (fun z hz => by cases hz), HB0⟩
  case round =>
    clear HE HB0
    obtain ⟨j, zs, hj, hzl, rfl, ho, hby, hb⟩ := hrel
    have zg := hb.out.size
    by_cases hlt : j < n
    · obtain ⟨cap, w2, hrun, b2, z2, hcs⟩ := bytesOfStr s wr
      have hd : w2.ownsRow w.heap.size 5 1 u5 zs.length (zs.map (Value.int .u8)) := ho.out.kept b2 (fun k hk => (World.ownsRow.lt ho.out k hk).2)
      have HT : Hid (∀ k, u5.ownBlock = some k → w.heap.size ≤ k) := fun k hk => (World.ownsRow.lt hd k hk).1
      have HN := hid hcs
      have HO := hid (Lib.strCells_oneCell s)
      have HLN := hid (Lib.strCells_length s)
      have HB2 := hid (hb.out.trans (b2.mono zg))
      have zz := b2.size
      clear hcs b2 ho hb
      go_wp2_with (at_builtin; refine wpList_append_own _ rfl _ _ 22 rfl w.heap.size 5 i0 (.int .u8 0) 1 1 Tryd.underlying22 hi hz0 hz1 hz2 rfl (by decide) _ _ _ rfl hd ⟨wr.heap.size, 0, none⟩ s.size cap (Lib.strCells s) rfl (by rw [HLN.out]; omega) HN.out HO.out ?c3 ?c4 ?c5 ?_)
      case c3 => unfold maxLen; omega
      case c4 => omega
      case c5 => omega
      · intro v' w3 hown' hgr _
        have R : Hid (Own w3 w.heap.size v' (zs ++ strInts s)) := by
          show Own _ _ _ _
          unfold Own
          rw [List.length_append, List.map_append, strInts_length, strInts_cells]
          exact hown'
        have RB : Hid (Below w.heap.size w w3) := HB2.out.grown hgr (by omega) HT.out
        have HBy : Hid (∀ z ∈ zs ++ strInts s, 0 ≤ z ∧ z < 256) := fun z hz => by
          rcases List.mem_append.1 hz with h | h
          · exact hby.out z h
          · exact strInts_byte s z h
        have hl2 : (zs ++ strInts s).length ≤ j + 1 := by rw [List.length_append, strInts_length]; omega
        clear hown' hgr hd HN HO HLN hrun HT HB2
        go_wp2_with fail
        go_roundw
        case rel => exact ⟨j + 1, zs ++ strInts s, hlt, hl2, by go_num, R, HBy, RB⟩
        case measure => simp [intOf]; omega
    · obtain rfl : j = n := by omega
      obtain ⟨t, ht, hcv⟩ := strOwn ⟨ho.out, hby.out⟩
      have hcv0 := hcv 0
      rw [World.drewN_zero] at hcv0
      clear hcv
      go_wp2_with fail
      go_ret
      exact ⟨t, by omega, rfl, hb.out⟩

end Go.Proofs.YthkppnmnjboiaaaDoor
