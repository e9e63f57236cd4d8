import Derived.Test.YthoilicolakofaaDoorRg
namespace Go.Proofs.YthoilicolakofaaDoor
open Go.ChangeShapes Go.WideShapes Go.ChangeAt Go.RowKit
set_option linter.unusedVariables false
set_option linter.unusedSimpArgs false

set_option maxHeartbeats 400000 in
theorem eqB2 (a a' : Option Addr) (n c c' : Nat) (f : Nat → Int) (w : World) (hn : n ≤ 1000000000) (h : Seg w a n f) (h' : Seg w a' n f) :
    Calls Tryd.prog 11 #[.slice a n c, .slice a' n c'] w fun e w' => e = .returned (.bool true) ∧ Below w.heap.size w w' := by
  rcases h with h | ⟨b, off, rfl, hb, hc⟩
  · subst h
    go_enter Tryd.func11, Tryd.ntmps11
    go_wp2
    refine wp_loop_rounds 1 ?_; rw [rounds_succ]; go_wp2
    go_ret
    exact ⟨rfl, Below.refl _ _⟩
  · rcases h' with h' | ⟨b', off', rfl, hb', hc'⟩
    · subst h'
      go_enter Tryd.func11, Tryd.ntmps11
      go_wp2
      refine wp_loop_rounds 1 ?_; rw [rounds_succ]; go_wp2
      go_ret
      exact ⟨rfl, Below.refl _ _⟩
    · go_enter Tryd.func11, Tryd.ntmps11
      go_wp2
      go_loopw [5] (fun i wr => ∃ k : Nat, k ≤ n ∧ i = .int .i64 k ∧ Below w.heap.size w wr) (fun i _ => n - (intOf i).toNat)
      case atStart => exact ⟨0, Nat.zero_le _, rfl, Below.refl _ _⟩
      case round =>
        obtain ⟨k, hk, rfl, hbel⟩ := hrel
        by_cases hlt : k < n
        · have hck : wr.cell? ⟨b, off + k, none⟩ = some (.int .u8 (f k)) := (hbel.cell (p := ⟨b, off + k, none⟩) hb).trans (hc k hlt)
          have hck' : wr.cell? ⟨b', off' + k, none⟩ = some (.int .u8 (f k)) := (hbel.cell (p := ⟨b', off' + k, none⟩) hb').trans (hc' k hlt)
          go_wp2
          go_region
          all_goals (try go_wp2)
          go_roundw
          case rel => exact ⟨k + 1, hlt, by go_num, hbel.drew⟩
          case measure => simp [intOf]; omega
        · obtain rfl : k = n := by omega
          go_wp2
          go_ret
          exact ⟨rfl, hbel⟩

theorem Own.any {w : World} {B : Nat} {v : Value} {zs : List Int} (h : Own w B v zs) : ∃ a cap, v = .slice a zs.length cap ∧ Seg w a zs.length (fun i => zs.getD i 0) := by
  by_cases hz : zs = []
  · subst hz
    obtain ⟨_, h2⟩ := h
    rcases h2 with ⟨rfl, _⟩ | ⟨g, cap, cur, rfl, _⟩
    · exact ⟨none, 0, rfl, .inl rfl⟩
    · exact ⟨_, cap, rfl, .inl rfl⟩
  · obtain ⟨g, cap, rfl, _, _, _, _, _, s⟩ := h.shape hz
    exact ⟨_, cap, rfl, s⟩

theorem eqOwn {w : World} {B B' : Nat} {v v' : Value} {zs : List Int} (h : Own w B v zs) (h' : Own w B' v' zs) (hl : zs.length ≤ 1000000000) :
    Calls Tryd.prog 11 #[v, v'] w fun e w' => e = .returned (.bool true) ∧ Below w.heap.size w w' := by
  obtain ⟨a, cap, rfl, s⟩ := h.any
  obtain ⟨a', cap', rfl, s'⟩ := h'.any
  exact eqB2 a a' zs.length cap cap' _ w hl s s'

set_option maxHeartbeats 400000 in
theorem markB0 (a : Option Addr) (cap k0 : Nat) (w : World) :
    Calls Tryd.prog 13 #[.slice a 0 cap, .int .i64 (k0 : Int)] w fun e w' => e = .returned (.int .i64 (k0 : Int)) ∧ w' = w := by
  go_enter Tryd.func13, Tryd.ntmps13
  go_wp2
  refine wp_loop_rounds 1 ?_; rw [rounds_succ]; go_wp2
  go_ret
  exact ⟨rfl, rfl⟩

theorem markOwn {w : World} {B : Nat} {v : Value} {zs : List Int} (h : Own w B v zs) (hl : zs.length ≤ 1000000000) (k0 : Nat) (hk0 : k0 ≤ 1000000) :
    Calls Tryd.prog 13 #[v, .int .i64 (k0 : Int)] w fun e w' => e = .returned (.int .i64 ((k0 + zs.length : Nat) : Int)) ∧ Below B w w' ∧ w'.heap.size = w.heap.size ∧ (∃ a cap, v = .slice a zs.length cap ∧ Seg w' a zs.length (mk8 k0)) := by
  by_cases hz : zs = []
  · subst hz
    obtain ⟨a, cap, rfl, s⟩ := h.any
    refine (markB0 a cap k0 w).mono ?_
    rintro e w' ⟨rfl, rfl⟩
    exact ⟨by simp, Below.refl _ _, rfl, a, cap, rfl, .inl rfl⟩
  · obtain ⟨g, cap, rfl, _, _, _, _, _, s⟩ := h.shape hz
    refine (markB B g zs.length cap k0 _ w (by omega) (by omega) h).mono ?_
    rintro e w' ⟨rfl, b, z, s, o⟩
    exact ⟨rfl, b, z, _, cap, rfl, s⟩

theorem grown_of {w w' : World} {B g : Nat} (hb : Below B w w') (hs : w.heap.size ≤ w'.heap.size) (h : ∀ b, b < w.heap.size → b ≠ g → w'.heap[b]? = w.heap[b]?) : w.grownBy w' (some g) :=
  ⟨hb.os, hb.tape, hb.output, hs, fun k hk hne => h k hk (fun e => hne (by rw [e]))⟩

theorem Own.gr {w w' : World} {B : Nat} {v : Value} {zs : List Int} {row : Option Nat} (h : Own w B v zs) (hg : w.grownBy w' row) (hne : ∀ g, v.ownBlock = Option.some g → Option.some g ≠ row) : Own w' B v zs :=
  World.ownsRow.kept h hg (by
    cases e : v.ownBlock with
    | none => exact .inl rfl
    | some g => exact .inr (hne g e))
theorem wp_appB {w : World} {o : Oper} {a : Act} {K : Act → World → Prop} {Q : Exit → Act → World → Prop} (s x : Operand)
    (ho : o.op = .call { callee := .builtin .append, args := #[s, x], argTypes := #[22, 22] })
    (B B' : Nat) (b v : Value) (zs ys : List Int) (hs : a.eval s = b) (hown : Own w B b zs) (hx : a.eval x = v) (hv : Own w B' v ys) (hvn : v.ownBlock ≠ none) (hbn : b.ownBlock ≠ none) (hl : zs.length + ys.length ≤ 1000000000) (hB : B ≤ w.heap.size)
    (h : ∀ v' w', Own w' B v' (zs ++ ys) → Gr w w' b v' → v'.ownBlock ≠ none → K (a.put o.dst v') w') : o.wp Tryd.prog a w K Q := by
  obtain ⟨i0, hi, hz0, hz1, hz2⟩ := info_parts Tryd.infoByte
  have hv' := hv
  obtain ⟨hv1, hv2⟩ := hv
  rcases hv2 with ⟨rfl, _⟩ | ⟨g, cap, cur, rfl, hbg, hg, hn, hm, r⟩
  · exact absurd rfl hvn
  refine wp_app_at s x 22 ho B 5 i0 (.int .u8 0) 1 1 Tryd.underlying22 hi hz0 hz1 hz2 rfl (by decide) b zs.length _ hs hown ⟨g, 0, none⟩ ys.length cap (ys.map (Value.int .u8)) hx (by simp) (World.ownsRow.cells hv' rfl) (ints_oneCell .u8 _) (by unfold maxLen; omega) (by omega) hB ?_
  intro v' w' h1 h2 h3
  refine h v' w' ?_ (Gr.app h2 h3) ?_
  · unfold Own; rw [List.length_append, List.map_append]; exact h1
  · rcases h3 with h3 | h3
    · rw [h3]; exact hbn
    · rw [h3]; simp

theorem wpList_appB {w : World} {ops : Array Oper} {rest : List Oper} {o : Oper} {a : Act} {Q : Exit → Act → World → Prop} (hgd : o.guard = none) (s x : Operand)
    (ho : o.op = .call { callee := .builtin .append, args := #[s, x], argTypes := #[22, 22] })
    (B B' : Nat) (b v : Value) (zs ys : List Int) (hs : a.eval s = b) (hown : Own w B b zs) (hx : a.eval x = v) (hv : Own w B' v ys) (hvn : v.ownBlock ≠ none) (hbn : b.ownBlock ≠ none) (hl : zs.length + ys.length ≤ 1000000000) (hB : B ≤ w.heap.size)
    (h : ∀ v' w', Own w' B v' (zs ++ ys) → Gr w w' b v' → v'.ownBlock ≠ none → wpList Tryd.prog ops Q rest (a.put o.dst v') w') : wpList Tryd.prog ops Q (o :: rest) a w :=
  wpList_plain hgd fun _ hK => wp_appB s x ho B B' b v zs ys hs hown hx hv hvn hbn hl hB fun v' w' h2 h3 h4 => hK _ _ (h v' w' h2 h3 h4)

theorem Own.some {w : World} {B : Nat} {v : Value} {zs : List Int} (h : Own w B v zs) (hz : 0 < zs.length) : v.ownBlock ≠ none := by
  obtain ⟨h1, h2⟩ := h
  rcases h2 with ⟨_, h2⟩ | ⟨g, cap, cur, rfl, _⟩
  · omega
  · simp [Value.ownBlock]
end Go.Proofs.YthoilicolakofaaDoor
