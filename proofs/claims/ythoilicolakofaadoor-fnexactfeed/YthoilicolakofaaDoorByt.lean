import Derived.Test.YthoilicolakofaaDoorRows
import Derived.WalkKit
import Derived.ProofKit
import Derived.OpenShut
import Derived.ShutString
import Derived.ChangeOld
import Derived.Below
import Derived.WalkLawsBesides
import Derived.WalkSpells
import Derived.Outline
namespace Go.Proofs.YthoilicolakofaaDoor
open Go.ChangeShapes Go.WideShapes Go.ChangeAt Go.RowKit
set_option linter.unusedVariables false

def Seg (w : World) (a : Option Addr) (n : Nat) (f : Nat → Int) : Prop :=
  n = 0 ∨ ∃ b off, a = some ⟨b, off, none⟩ ∧ b < w.heap.size ∧ ∀ i, i < n → w.cell? ⟨b, off + i, none⟩ = some (.int .u8 (f i))

def Byt (f : Nat → Int) : Prop := ∀ i, 0 ≤ f i ∧ f i < 256

theorem Seg.below {w w' : World} {a : Option Addr} {n : Nat} {f : Nat → Int} (h : Seg w a n f) (hb : Below w.heap.size w w') : Seg w' a n f := by
  rcases h with h | ⟨b, off, rfl, hlt, hc⟩
  · exact .inl h
  · exact .inr ⟨b, off, rfl, Nat.lt_of_lt_of_le hlt hb.size, fun i hi => (hb.cell (p := ⟨b, off + i, none⟩) hlt).trans (hc i hi)⟩

theorem ret_int {k : IntKind} {a b : Int} (h : a = b) : Ending.returned (.int k a) = .returned (.int k b) := by rw [h]

theorem Tryd.infoByte : (Tryd.prog.info? 5).map (fun i => (i.zero, i.size, i.bytes)) = some (some (.int .u8 0), 1, 1) := by kernel_rfl

def cells8 (f : Nat → Int) (n : Nat) : List Value := (List.range n).map fun i => .int .u8 (f i)
def mix (f : Nat → Int) (k : Nat) (i : Nat) : Int := if i < k then f i else 0

theorem cells8_get (f : Nat → Int) (n i : Nat) (h : i < n) : (cells8 f n)[i]? = some (.int .u8 (f i)) := by
  simp [cells8, h]

theorem cells8_zero (f : Nat → Int) (n : Nat) : (madeCells #[.int .u8 0] n).toList = cells8 (mix f 0) n := by
  rw [toList_madeCells_one]
  apply List.ext_getElem?
  intro j
  by_cases hj : j < n
  · simp [cells8, hj, mix]
  · simp [cells8, hj]

theorem cells8_set (f : Nat → Int) (n k : Nat) (h : k < n) : (cells8 (mix f k) n).set k (.int .u8 (f k)) = cells8 (mix f (k + 1)) n := by
  apply List.ext_getElem?
  intro j
  by_cases hj : j < n
  · by_cases hjk : k = j
    · subst hjk; simp [cells8, hj, mix]
    · rw [List.getElem?_set_ne hjk, cells8_get _ _ _ hj, cells8_get _ _ _ hj]
      have : mix f k j = mix f (k + 1) j := by unfold mix; split <;> split <;> first | rfl | omega
      rw [this]
  · rw [List.getElem?_eq_none (by simp [cells8]; omega), List.getElem?_eq_none (by simp [cells8]; omega)]

theorem seg_own {w : World} {B g n cap : Nat} {f : Nat → Int} (h : w.ownsRow B 5 1 (.slice (some ⟨g, 0, none⟩) n cap) n (cells8 (mix f n) n)) : Seg w (some ⟨g, 0, none⟩) n f := by
  refine .inr ⟨g, 0, rfl, (h.lt g rfl).2, fun i hi => ?_⟩
  rw [Nat.zero_add, h.cellAt i (by omega), cells8_get _ _ _ hi]
  simp [mix, hi]

set_option maxHeartbeats 400000 in
theorem toByteS (a : Option Addr) (n c : Nat) (f : Nat → Int) (w : World) (hn : n ≤ 4194304) (hf : Byt f) (h : Seg w a n f) :
    Calls Tryd.prog 7 #[.slice a n c] w fun e w' => e = .returned (.slice (some ⟨w.heap.size, 0, none⟩) n n) ∧ Seg w' (some ⟨w.heap.size, 0, none⟩) n f ∧ Below w.heap.size w w' ∧ w.heap.size < w'.heap.size := by
  obtain ⟨i0, hi, hz0, hz1, hz2⟩ := info_parts Tryd.infoByte
  have hm : n ≤ maxLen := by unfold maxLen; omega
  have hby : i0.bytes * n ≤ 281474976710656 := by rw [hz2]; omega
  rcases h with h | ⟨b, off, rfl, hb, hc⟩
  · subst h
    go_enter Tryd.func7, Tryd.ntmps7
    go_wp2_with (at_make; refine wpList_make_full _ rfl _ _ 22 rfl w.heap.size 5 i0 (.int .u8 0) 1 Tryd.underlying22 hi hz0 hz1 _ _ _ _ 0 rfl rfl rfl rfl hby hm (Nat.le_refl _) ?_; intro w1 hown hgr)
    refine wp_loop_rounds 1 ?_; rw [rounds_succ]; go_wp2
    go_ret
    exact ⟨rfl, .inl rfl, (Below.refl _ _).grown hgr (Nat.le_refl _) (fun _ h => by cases h), (hown.lt _ rfl).2⟩
  · go_enter Tryd.func7, Tryd.ntmps7
    go_wp2_with (at_make; refine wpList_make_full _ rfl _ _ 22 rfl w.heap.size 5 i0 (.int .u8 0) 1 Tryd.underlying22 hi hz0 hz1 _ _ _ _ n rfl rfl rfl rfl hby hm (Nat.le_refl _) ?_; intro w1 hown hgr)
    have hbel : Below w.heap.size w w1 := (Below.refl _ _).grown hgr (Nat.le_refl _) (fun _ h => by cases h)
    have hown' : w1.ownsRow w.heap.size 5 1 (.slice (some ⟨w.heap.size, 0, none⟩) n n) n (cells8 (mix f 0) n) := by
      have e : (madeCells (Value.int .u8 0).cells (n * 1)).toList = cells8 (mix f 0) n := by rw [Nat.mul_one]; exact cells8_zero f n
      rw [e] at hown; exact hown
    clear hown hgr
    go_loopw [4] (fun i wr => ∃ k : Nat, k ≤ n ∧ i = .int .i64 k ∧ wr.ownsRow w.heap.size 5 1 (.slice (some ⟨w.heap.size, 0, none⟩) n n) n (cells8 (mix f k) n) ∧ Below w.heap.size w wr) (fun i _ => n - (intOf i).toNat)
    case atStart => exact ⟨0, Nat.zero_le _, rfl, hown', hbel⟩
    case round =>
      clear hown' hbel
      obtain ⟨k, hk, rfl, hown, hbel⟩ := hrel
      by_cases hlt : k < n
      · have hck : wr.cell? ⟨b, off + k, none⟩ = some (.int .u8 (f k)) := (hbel.cell (p := ⟨b, off + k, none⟩) hb).trans (hc k hlt)
        have ho : wr.cell? ⟨w.heap.size, k, none⟩ = some (.int .u8 (mix f k k)) := by rw [hown.cellAt k (by omega), cells8_get _ _ _ hlt]
        have hz := hown.frozenAt k
        have R := (hown.stored k (.int .u8 (f k))).1
        rw [cells8_set f n k hlt] at R
        have RB := hbel.setCell (p := ⟨w.heap.size, k, none⟩) (Nat.le_refl _) (.int .u8 (f k))
        have hfk := hf k
        clear hown
        go_wp2
        go_roundw
        case rel => exact ⟨k + 1, hlt, by go_num, R, RB⟩
        case measure => simp [intOf]; omega
      · obtain rfl : k = n := by omega
        go_wp2
        go_ret
        exact ⟨rfl, seg_own hown, hbel, (hown.lt _ rfl).2⟩

set_option maxHeartbeats 400000 in
theorem eqByteS (a a' : Option Addr) (n c c' : Nat) (f : Nat → Int) (w : World) (hn : n ≤ 1000000000) (hf : Byt f) (h : Seg w a n f) (h' : Seg w a' n f) :
    Calls Tryd.prog 11 #[.slice a n c, .slice a' n c'] w fun e w' => e = .returned (.bool true) ∧ Below w.heap.size w w' := by
  rcases h with h | ⟨b, off, rfl, hb, hc⟩
  · subst h
    go_enter Tryd.func11, Tryd.ntmps11
    go_wp2
    refine wp_loop_rounds 1 ?_; rw [rounds_succ]; go_wp2
    go_ret
    exact ⟨rfl, Below.refl _ _⟩
  · rcases h' with h' | ⟨b', off', rfl, hb', hc'⟩
    · subst h'
      go_enter Tryd.func11, Tryd.ntmps11
      go_wp2
      refine wp_loop_rounds 1 ?_; rw [rounds_succ]; go_wp2
      go_ret
      exact ⟨rfl, Below.refl _ _⟩
    · go_enter Tryd.func11, Tryd.ntmps11
      go_wp2
      go_loopw [5] (fun i wr => ∃ k : Nat, k ≤ n ∧ i = .int .i64 k ∧ Below w.heap.size w wr) (fun i _ => n - (intOf i).toNat)
      case atStart => exact ⟨0, Nat.zero_le _, rfl, Below.refl _ _⟩
      case round =>
        obtain ⟨k, hk, rfl, hbel⟩ := hrel
        by_cases hlt : k < n
        · have hck : wr.cell? ⟨b, off + k, none⟩ = some (.int .u8 (f k)) := (hbel.cell (p := ⟨b, off + k, none⟩) hb).trans (hc k hlt)
          have hck' : wr.cell? ⟨b', off' + k, none⟩ = some (.int .u8 (f k)) := (hbel.cell (p := ⟨b', off' + k, none⟩) hb').trans (hc' k hlt)
          have hfk := hf k
          go_wp2
          go_region
          all_goals (try go_wp2)
          go_roundw
          case rel => exact ⟨k + 1, hlt, by go_num, hbel.drew⟩
          case measure => simp [intOf]; omega
        · obtain rfl : k = n := by omega
          go_wp2
          go_ret
          exact ⟨rfl, hbel⟩

theorem seg_of {w : World} {a0 : Option Addr} {len0 cap0 : Nat} {z0 : List Int}
    (w0 : (a0 = none ∧ len0 = 0 ∧ cap0 = 0 ∧ z0 = []) ∨
      ∃ x, a0 = some x ∧ len0 ≤ cap0 ∧ cap0 ≤ maxLen ∧ z0.length = cap0 ∧ (∀ i, i < z0.length → w.cell? (x.add i) = some (.int .u8 (z0.getD i 0))) ∧ ∀ n ∈ z0, (Lit.int .u8 n).wf = true) :
    Seg w a0 len0 (fun i => z0.getD i 0) ∧ Byt (fun i => z0.getD i 0) ∧ len0 ≤ 9223372036854775807 := by
  rcases w0 with ⟨rfl, rfl, rfl, rfl⟩ | ⟨⟨b, off, sp⟩, rfl, hl, hm, hz, hcell, hwz⟩
  · exact ⟨.inl rfl, fun i => by simp, by omega⟩
  · refine ⟨?_, fun i => ?_, by unfold maxLen at hm; omega⟩
    · by_cases h0 : len0 = 0
      · exact .inl h0
      · have hc0 := hcell 0 (by omega)
        have hsp : sp = none := by simpa [Addr.add] using World.cell?_spot hc0
        subst hsp
        refine .inr ⟨b, off, rfl, block_lt_of_cell hc0, fun i hi => ?_⟩
        have h := hcell i (by omega)
        by_cases hi0 : i = 0
        · subst hi0; simpa [Addr.add] using h
        · simpa [Addr.add, hi0] using h
    · by_cases hi : i < z0.length
      · have := hwz (z0.getD i 0) (by simp [List.getD, hi])
        have b := bounds_u8 this
        show 0 ≤ z0.getD i 0 ∧ z0.getD i 0 < 256
        omega
      · simp [List.getD, hi]
end Go.Proofs.YthoilicolakofaaDoor
