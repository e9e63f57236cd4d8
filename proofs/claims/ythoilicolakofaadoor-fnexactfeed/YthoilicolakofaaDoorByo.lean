import Derived.Test.YthoilicolakofaaDoorByt
namespace Go.Proofs.YthoilicolakofaaDoor
open Go.ChangeShapes Go.WideShapes Go.ChangeAt Go.RowKit
set_option linter.unusedVariables false

set_option maxHeartbeats 400000 in
theorem toByteO (a : Option Addr) (n c : Nat) (f : Nat → Int) (w : World) (hn : n ≤ 4194304) (hf : Byt f) (h : Seg w a n f) :
    Calls Tryd.prog 7 #[.slice a n c] w fun e w' => e = .returned (.slice (some ⟨w.heap.size, 0, none⟩) n n) ∧ Seg w' (some ⟨w.heap.size, 0, none⟩) n f ∧ Below w.heap.size w w' ∧ w.heap.size < w'.heap.size ∧ ∃ xs, w'.ownsRow w.heap.size 5 1 (.slice (some ⟨w.heap.size, 0, none⟩) n n) n xs := by
  obtain ⟨i0, hi, hz0, hz1, hz2⟩ := info_parts Tryd.infoByte
  have hm : n ≤ maxLen := by unfold maxLen; omega
  have hby : i0.bytes * n ≤ 281474976710656 := by rw [hz2]; omega
  rcases h with h | ⟨b, off, rfl, hb, hc⟩
  · subst h
    go_enter Tryd.func7, Tryd.ntmps7
    go_wp2_with (at_make; refine wpList_make_full _ rfl _ _ 22 rfl w.heap.size 5 i0 (.int .u8 0) 1 Tryd.underlying22 hi hz0 hz1 _ _ _ _ 0 rfl rfl rfl rfl hby hm (Nat.le_refl _) ?_; intro w1 hown hgr)
    refine wp_loop_rounds 1 ?_; rw [rounds_succ]; go_wp2
    go_ret
    exact ⟨rfl, .inl rfl, (Below.refl _ _).grown hgr (Nat.le_refl _) (fun _ h => by cases h), (hown.lt _ rfl).2, _, hown⟩
  · go_enter Tryd.func7, Tryd.ntmps7
    go_wp2_with (at_make; refine wpList_make_full _ rfl _ _ 22 rfl w.heap.size 5 i0 (.int .u8 0) 1 Tryd.underlying22 hi hz0 hz1 _ _ _ _ n rfl rfl rfl rfl hby hm (Nat.le_refl _) ?_; intro w1 hown hgr)
    have hbel : Below w.heap.size w w1 := (Below.refl _ _).grown hgr (Nat.le_refl _) (fun _ h => by cases h)
    have hown' : w1.ownsRow w.heap.size 5 1 (.slice (some ⟨w.heap.size, 0, none⟩) n n) n (cells8 (mix f 0) n) := by
      have e : (madeCells (Value.int .u8 0).cells (n * 1)).toList = cells8 (mix f 0) n := by rw [Nat.mul_one]; exact cells8_zero f n
      rw [e] at hown; exact hown
    clear hown hgr
    go_loopw [4] (fun i wr => ∃ k : Nat, k ≤ n ∧ i = .int .i64 k ∧ wr.ownsRow w.heap.size 5 1 (.slice (some ⟨w.heap.size, 0, none⟩) n n) n (cells8 (mix f k) n) ∧ Below w.heap.size w wr) (fun i _ => n - (intOf i).toNat)
    case atStart => exact ⟨0, Nat.zero_le _, rfl, hown', hbel⟩
    case round =>
      clear hown' hbel
      obtain ⟨k, hk, rfl, hown, hbel⟩ := hrel
      by_cases hlt : k < n
      · have hck : wr.cell? ⟨b, off + k, none⟩ = some (.int .u8 (f k)) := (hbel.cell (p := ⟨b, off + k, none⟩) hb).trans (hc k hlt)
        have ho : wr.cell? ⟨w.heap.size, k, none⟩ = some (.int .u8 (mix f k k)) := by rw [hown.cellAt k (by omega), cells8_get _ _ _ hlt]
        have hz := hown.frozenAt k
        have R := (hown.stored k (.int .u8 (f k))).1
        rw [cells8_set f n k hlt] at R
        have RB := hbel.setCell (p := ⟨w.heap.size, k, none⟩) (Nat.le_refl _) (.int .u8 (f k))
        have hfk := hf k
        clear hown
        go_wp2
        go_roundw
        case rel => exact ⟨k + 1, hlt, by go_num, R, RB⟩
        case measure => simp [intOf]; omega
      · obtain rfl : k = n := by omega
        go_wp2
        go_ret
        exact ⟨rfl, seg_own hown, hbel, (hown.lt _ rfl).2, _, hown⟩

end Go.Proofs.YthoilicolakofaaDoor
