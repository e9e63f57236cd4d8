import Derived.Test.YtbimcammjohaoadDoorPutS
import Derived.Test.YtbimcammjohaoadDoorMark
import Derived.Test.YtbimcammjohaoadDoorEq
namespace Go.Proofs.YtbimcammjohaoadDoor
open Go.ChangeShapes Go.WideShapes Go.ChangeAt Go.RowKit Go.Maps Go.Sort
set_option linter.unusedVariables false
set_option linter.unusedSimpArgs false

def putZ (R F T : Nat → Int) (n : Nat) : List Int := if ctxB R F T n then putB (Lk R F T n) else []
theorem putZ_len (R F T : Nat → Int) (n : Nat) : (putZ R F T n).length ≤ 1000000 := by
  unfold putZ
  split
  · rename_i h
    have hok := ctxB_iff.1 h
    rw [putB_eq]
    have h1 := (uvF_len 9 (KS (Lk R F T n) 8).length).1
    have h2 := bodyF_len (L := Lk R F T n) (fun r => Nat.le_trans (Lk_len R F T n r) hok.2) 8
    simp only [List.length_append]; omega
  · simp

theorem specPutA (a : Option Addr) (n c : Nat) (R F T : Nat → Int) (w : World) (hn : n ≤ 1048576) (h : RSeg w a n R F T) :
    Calls Tryd.prog 24 #[.agg #[.slice a n c]] w fun e w' => ∃ v, e = .returned (.tuple #[v, .bool (ctxB R F T n)]) ∧ Own w' w.heap.size v (putZ R F T n) ∧ Below w.heap.size w w' := by
  by_cases hok : ctxB R F T n = true
  · have := specPut a n c R F T w hn h hok
    unfold putZ; rw [hok]; exact this
  · have hok : ctxB R F T n = false := by simpa using hok
    have HE : Hid (putZ R F T n = []) := by show _ = _; unfold putZ; rw [hok]; rfl
    have B0 : Below w.heap.size w (w.alloc (.cells #[.slice a n c] 25)) := (Below.refl _ _).alloc (Nat.le_refl _) _
    rw [hok]
    go_enter Tryd.func24, Tryd.ntmps24
    go_wp2_with fail
    refine (specOk a n c R F T _ hn (h.below B0)).mono ?_
    rintro e w1 ⟨rfl, b1⟩
    rw [hok]
    have HB1 := hid (keepS B0 b1)
    have z1 := HB1.out.size
    clear b1 B0 hok h
    go_wp2_with fail
    go_ret2
    refine ⟨_, rfl, ?_, HB1.out.alloc z1 _⟩
    rw [HE.out]
    have := World.ownsRow_lit (base := w.heap.size) (e := 5) (size := 1) w1 #[] 0 z1 (by unfold maxLen; omega) rfl
    simpa [Own] using this

set_option maxHeartbeats 400000 in
theorem eqB2 (a a' : Option Addr) (n c c' : Nat) (f : Nat → Int) (w : World) (hn : n ≤ 1000000000) (h : Seg w a n f) (h' : Seg w a' n f) :
    Calls Tryd.prog 9 #[.slice a n c, .slice a' n c'] w fun e w' => e = .returned (.bool true) ∧ Below w.heap.size w w' := by
  rcases h with h | ⟨b, off, rfl, hb, hc⟩
  · subst h
    go_enter Tryd.func9, Tryd.ntmps9
    go_wp2
    refine wp_loop_rounds 1 ?_; rw [rounds_succ]; go_wp2
    go_ret
    exact ⟨rfl, Below.refl _ _⟩
  · rcases h' with h' | ⟨b', off', rfl, hb', hc'⟩
    · subst h'
      go_enter Tryd.func9, Tryd.ntmps9
      go_wp2
      refine wp_loop_rounds 1 ?_; rw [rounds_succ]; go_wp2
      go_ret
      exact ⟨rfl, Below.refl _ _⟩
    · go_enter Tryd.func9, Tryd.ntmps9
      go_wp2
      go_loopw [5] (fun i wr => ∃ k : Nat, k ≤ n ∧ i = .int .i64 k ∧ Below w.heap.size w wr) (fun i _ => n - (intOf i).toNat)
      case atStart => exact ⟨0, Nat.zero_le _, rfl, Below.refl _ _⟩
      case round =>
        obtain ⟨k, hk, rfl, hbel⟩ := hrel
        by_cases hlt : k < n
        · have hck : wr.cell? ⟨b, off + k, none⟩ = some (.int .u8 (f k)) := (hbel.cell (p := ⟨b, off + k, none⟩) hb).trans (hc k hlt)
          have hck' : wr.cell? ⟨b', off' + k, none⟩ = some (.int .u8 (f k)) := (hbel.cell (p := ⟨b', off' + k, none⟩) hb').trans (hc' k hlt)
          go_wp2
          go_region
          all_goals (try go_wp2)
          go_roundw
          case rel => exact ⟨k + 1, hlt, by go_num, hbel.drew⟩
          case measure => simp [intOf]; omega
        · obtain rfl : k = n := by omega
          go_wp2
          go_ret
          exact ⟨rfl, hbel⟩

theorem Own.any {w : World} {B : Nat} {v : Value} {zs : List Int} (h : Own w B v zs) : ∃ a cap, v = .slice a zs.length cap ∧ Seg w a zs.length (fun i => zs.getD i 0) := by
  by_cases hz : zs = []
  · subst hz
    obtain ⟨_, h2⟩ := h
    rcases h2 with ⟨rfl, _⟩ | ⟨g, cap, cur, rfl, _⟩
    · exact ⟨none, 0, rfl, .inl rfl⟩
    · exact ⟨_, cap, rfl, .inl rfl⟩
  · obtain ⟨g, cap, rfl, _, _, _, _, _, s⟩ := h.shape hz
    exact ⟨_, cap, rfl, s⟩

theorem eqOwn {w : World} {B B' : Nat} {v v' : Value} {zs : List Int} (h : Own w B v zs) (h' : Own w B' v' zs) (hl : zs.length ≤ 1000000000) :
    Calls Tryd.prog 9 #[v, v'] w fun e w' => e = .returned (.bool true) ∧ Below w.heap.size w w' := by
  obtain ⟨a, cap, rfl, s⟩ := h.any
  obtain ⟨a', cap', rfl, s'⟩ := h'.any
  exact eqB2 a a' zs.length cap cap' _ w hl s s'

set_option maxHeartbeats 400000 in
theorem markB0 (a : Option Addr) (cap k0 : Nat) (w : World) :
    Calls Tryd.prog 10 #[.slice a 0 cap, .int .i64 (k0 : Int)] w fun e w' => e = .returned (.int .i64 (k0 : Int)) ∧ w' = w := by
  go_enter Tryd.func10, Tryd.ntmps10
  go_wp2
  refine wp_loop_rounds 1 ?_; rw [rounds_succ]; go_wp2
  go_ret
  exact ⟨rfl, rfl⟩

theorem markOwn {w : World} {B : Nat} {v : Value} {zs : List Int} (h : Own w B v zs) (hl : zs.length ≤ 1000000000) (k0 : Nat) (hk0 : k0 ≤ 1000000) :
    Calls Tryd.prog 10 #[v, .int .i64 (k0 : Int)] w fun e w' => e = .returned (.int .i64 ((k0 + zs.length : Nat) : Int)) ∧ Below B w w' ∧ w'.heap.size = w.heap.size ∧ (∃ a cap, v = .slice a zs.length cap ∧ Seg w' a zs.length (mk8 k0)) := by
  by_cases hz : zs = []
  · subst hz
    obtain ⟨a, cap, rfl, s⟩ := h.any
    refine (markB0 a cap k0 w).mono ?_
    rintro e w' ⟨rfl, rfl⟩
    exact ⟨by simp, Below.refl _ _, rfl, a, cap, rfl, .inl rfl⟩
  · obtain ⟨g, cap, rfl, _, _, _, _, _, s⟩ := h.shape hz
    refine (markB B g zs.length cap k0 _ w (by omega) (by omega) h).mono ?_
    rintro e w' ⟨rfl, b, z, s, o⟩
    exact ⟨rfl, b, z, _, cap, rfl, s⟩

theorem grown_of {w w' : World} {B g : Nat} (hb : Below B w w') (hs : w.heap.size ≤ w'.heap.size) (h : ∀ b, b < w.heap.size → b ≠ g → w'.heap[b]? = w.heap[b]?) : w.grownBy w' (some g) :=
  ⟨hb.os, hb.tape, hb.output, hs, fun k hk hne => h k hk (fun e => hne (by rw [e]))⟩

theorem Own.gr {w w' : World} {B : Nat} {v : Value} {zs : List Int} {row : Option Nat} (h : Own w B v zs) (hg : w.grownBy w' row) (hne : ∀ g, v.ownBlock = Option.some g → Option.some g ≠ row) : Own w' B v zs :=
  World.ownsRow.kept h hg (by
    cases e : v.ownBlock with
    | none => exact .inl rfl
    | some g => exact .inr (hne g e))
end Go.Proofs.YtbimcammjohaoadDoor
