import Derived.Test.YthkppnmnjboiaaaDoorWu
namespace Go.Proofs.YthkppnmnjboiaaaDoor
open Go.ChangeShapes Go.WideShapes Go.ChangeAt Go.RowKit
set_option linter.unusedVariables false

theorem hid {p : Prop} (h : p) : Hid p := h

theorem Own.kept {w w1 : World} {B C : Nat} {v : Value} {zs : List Int} (h : Own w B v zs) (hb : Below C w w1) (hc : ∀ k, v.ownBlock = some k → k < C) : Own w1 B v zs := by
  obtain ⟨h1, h2⟩ := h
  refine ⟨h1, ?_⟩
  rcases h2 with h2 | ⟨g, cap, cur, rfl, hbg, hg, r⟩
  · exact .inl h2
  · exact .inr ⟨g, cap, cur, rfl, hbg, by rw [hb.block g (hc g rfl)]; exact hg, r⟩

theorem Seg.kept {w w1 : World} {B : Nat} {a : Option Addr} {n : Nat} {f : Nat → Int} (h : Seg w a n f) (hb : Below B w w1) (hB : B ≤ w.heap.size) (hc : ∀ x, a = some x → x.block < B) : Seg w1 a n f := by
  rcases h with h | ⟨b, off, rfl, hlt, hcell⟩
  · exact .inl h
  · exact .inr ⟨b, off, rfl, Nat.lt_of_lt_of_le hlt hb.size, fun i hi => (hb.cell (p := ⟨b, off + i, none⟩) (show b < B from hc ⟨b, off, none⟩ rfl)).trans (hcell i hi)⟩

theorem Own.weak {w : World} {B C : Nat} {v : Value} {zs : List Int} (h : Own w B v zs) (hc : C ≤ B) : Own w C v zs := by
  obtain ⟨h1, h2⟩ := h
  refine ⟨h1, ?_⟩
  rcases h2 with h2 | ⟨g, cap, cur, rfl, hbg, r⟩
  · exact .inl h2
  · exact .inr ⟨g, cap, cur, rfl, Nat.le_trans hc hbg, r⟩

theorem Own.shape {w : World} {B : Nat} {v : Value} {zs : List Int} (h : Own w B v zs) (hz : zs ≠ []) :
    ∃ g cap, v = .slice (some ⟨g, 0, none⟩) zs.length cap ∧ B ≤ g ∧ g < w.heap.size ∧ zs.length ≤ cap ∧ cap ≤ maxLen ∧
      (∀ j u, (zs.map (Value.int .u8))[j]? = some u → w.cell? ((⟨g, 0, none⟩ : Addr).add j) = some u) ∧ Seg w (some ⟨g, 0, none⟩) zs.length (fun i => zs.getD i 0) := by
  have h' := h
  obtain ⟨h1, h2⟩ := h
  rcases h2 with ⟨_, h2⟩ | ⟨g, cap, cur, rfl, hbg, hg, hn, hm, r⟩
  · exact absurd (List.eq_nil_of_length_eq_zero h2) hz
  · have hlt := (h'.lt g rfl).2
    refine ⟨g, cap, rfl, hbg, hlt, hn, hm, h'.cells rfl, .inr ⟨g, 0, rfl, hlt, fun i hi => ?_⟩⟩
    rw [Nat.zero_add, World.ownsRow.cellAt h' i (by omega)]
    simp [hi, List.getD]

theorem bytesOf {zs : List Int} (h : ∀ z ∈ zs, 0 ≤ z ∧ z < 256) : Byt (fun i => zs.getD i 0) := by
  intro i
  by_cases hi : i < zs.length
  · have := h (zs.getD i 0) (by simp [List.getD, hi])
    exact this
  · simp [List.getD, hi]

set_option maxRecDepth 100000 in
set_option maxHeartbeats 800000 in
theorem specUv (k : Nat) : ∀ (m : Nat) (w : World), k ≤ 9 → Hid (m < 128 ^ (k + 1)) → m < 18446744073709551616 →
    Calls Tryd.prog 29 #[.int .u64 (m : Int)] w fun e w' => ∃ v, e = .returned v ∧ Own w' w.heap.size v (uvF k m) ∧ Below w.heap.size w w' ∧ w.heap.size < w'.heap.size := by
  obtain ⟨i0, hi, hz0, hz1, hz2⟩ := info_parts Tryd.infoByte
  have small : ∀ (k m : Nat) (w : World), m < 128 → Calls Tryd.prog 29 #[.int .u64 (m : Int)] w fun e w' => ∃ v, e = .returned v ∧ Own w' w.heap.size v (uvF k m) ∧ Below w.heap.size w w' ∧ w.heap.size < w'.heap.size := by
    intro k m w hm
    have HE : Hid (uvF k m = [(m : Int)]) := uvF_lt k m hm
    go_enter Tryd.func29, Tryd.ntmps29
    go_wp2_with fail
    go_ret
    refine ⟨_, rfl, ?_, (Below.refl _ _).alloc (Nat.le_refl _) _, by simp⟩
    rw [HE.out]
    exact own_one w _ _ (Nat.le_refl _)
  induction k with
  | zero => intro m w _ hm _; exact small 0 m w (by have := hm.out; omega)
  | succ k ih =>
    intro m w hk hmk hm
    by_cases hlt : m < 128
    · exact small (k + 1) m w hlt
    · have HE : Hid (uvF (k + 1) m = ((128 + m % 128 : Nat) : Int) :: uvF k (m / 128)) := uvF_ge k m hlt
      have HL := uvF_len k (m / 128)
      have HK : Hid (m / 128 < 128 ^ (k + 1)) := by
        have := hmk.out
        rw [Nat.pow_succ] at this
        show _ < _
        omega
      have IH := ih (m / 128) (w.alloc (.cells #[.int .u8 (128 + (m : Int) % 128)] 5)) (by omega) HK (by omega)
      have HI := hid IH
      clear IH ih small hmk
      go_enter Tryd.func29, Tryd.ntmps29
      go_wp2_with fail
      rw [show ((m : Int) / 128) = ((m / 128 : Nat) : Int) from by omega]
      refine HI.out.mono ?_
      rintro e w1 ⟨v, rfl, ho, hb, hz⟩
      obtain ⟨g, cap, rfl, hg1, hg2, _, _, hcs, _⟩ := ho.shape (by intro e; rw [e] at HL; simp at HL)
      have hd : w1.ownsRow w.heap.size 5 1 (.slice (some ⟨w.heap.size, 0, none⟩) 1 1) 1 [.int .u8 (128 + (m : Int) % 128)] :=
        (own_one w w.heap.size (128 + (m : Int) % 128) (Nat.le_refl _)).kept hb (fun k hk => by simp [Value.ownBlock] at hk; simp; omega)
      have hzs : w.heap.size + 1 < w1.heap.size := by have := hz; simp at this; exact this
      have hone : ∀ u ∈ (uvF k (m / 128)).map (Value.int .u8), u.oneCell' = true := ints_oneCell .u8 _
      have HN := hid hcs
      clear hcs HI ho
      go_wp2_with (at_builtin; refine wpList_append_own _ rfl _ _ 22 rfl w.heap.size 5 i0 (.int .u8 0) 1 1 Tryd.underlying22 hi hz0 hz1 hz2 rfl (by decide) _ _ _ rfl hd ⟨g, 0, none⟩ (uvF k (m / 128)).length cap ((uvF k (m / 128)).map (Value.int .u8)) rfl (by simp) HN.out hone ?c3 ?c4 ?c5 ?_)
      case c3 => unfold maxLen; omega
      case c4 => omega
      case c5 => omega
      · intro v' w2 hown' hgr _
        have R : Own w2 w.heap.size v' (uvF (k + 1) m) := by
          rw [HE.out]
          unfold Own
          rw [List.length_cons, List.map_cons, Nat.add_comm]
          exact hown'
        have RB : Below w.heap.size w w2 := ((((Below.refl _ _).alloc (Nat.le_refl _) _).trans (hb.mono (by simp)))).grown hgr (by omega) (fun k hk => by simp [Value.ownBlock] at hk; omega)
        have RZ := hgr.size
        clear hown' hgr hd HN hone
        go_wp2_with fail
        go_ret
        exact ⟨v', rfl, R, RB, by omega⟩

end Go.Proofs.YthkppnmnjboiaaaDoor
