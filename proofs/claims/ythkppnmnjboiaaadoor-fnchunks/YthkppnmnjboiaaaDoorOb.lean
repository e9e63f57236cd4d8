import Derived.Test.YthkppnmnjboiaaaDoorRg
namespace Go.Proofs.YthkppnmnjboiaaaDoor
open Go.ChangeShapes Go.WideShapes Go.ChangeAt Go.RowKit
set_option linter.unusedVariables false
set_option linter.unusedSimpArgs false

theorem Own.any {w : World} {B : Nat} {v : Value} {zs : List Int} (h : Own w B v zs) : ∃ a cap, v = .slice a zs.length cap ∧ Seg w a zs.length (fun i => zs.getD i 0) := by
  by_cases hz : zs = []
  · subst hz
    obtain ⟨_, h2⟩ := h
    rcases h2 with ⟨rfl, _⟩ | ⟨g, cap, cur, rfl, _⟩
    · exact ⟨none, 0, rfl, .inl rfl⟩
    · exact ⟨_, cap, rfl, .inl rfl⟩
  · obtain ⟨g, cap, rfl, _, _, _, _, _, s⟩ := h.shape hz
    exact ⟨_, cap, rfl, s⟩

theorem grown_of {w w' : World} {B g : Nat} (hb : Below B w w') (hs : w.heap.size ≤ w'.heap.size) (h : ∀ b, b < w.heap.size → b ≠ g → w'.heap[b]? = w.heap[b]?) : w.grownBy w' (some g) :=
  ⟨hb.os, hb.tape, hb.output, hs, fun k hk hne => h k hk (fun e => hne (by rw [e]))⟩

theorem Own.gr {w w' : World} {B : Nat} {v : Value} {zs : List Int} {row : Option Nat} (h : Own w B v zs) (hg : w.grownBy w' row) (hne : ∀ g, v.ownBlock = Option.some g → Option.some g ≠ row) : Own w' B v zs :=
  World.ownsRow.kept h hg (by
    cases e : v.ownBlock with
    | none => exact .inl rfl
    | some g => exact .inr (hne g e))
theorem wp_appB {w : World} {o : Oper} {a : Act} {K : Act → World → Prop} {Q : Exit → Act → World → Prop} (s x : Operand)
    (ho : o.op = .call { callee := .builtin .append, args := #[s, x], argTypes := #[22, 22] })
    (B B' : Nat) (b v : Value) (zs ys : List Int) (hs : a.eval s = b) (hown : Own w B b zs) (hx : a.eval x = v) (hv : Own w B' v ys) (hvn : v.ownBlock ≠ none) (hbn : b.ownBlock ≠ none) (hl : zs.length + ys.length ≤ 1000000000) (hB : B ≤ w.heap.size)
    (h : ∀ v' w', Own w' B v' (zs ++ ys) → Gr w w' b v' → v'.ownBlock ≠ none → K (a.put o.dst v') w') : o.wp Tryd.prog a w K Q := by
  obtain ⟨i0, hi, hz0, hz1, hz2⟩ := info_parts Tryd.infoByte
  have hv' := hv
  obtain ⟨hv1, hv2⟩ := hv
  rcases hv2 with ⟨rfl, _⟩ | ⟨g, cap, cur, rfl, hbg, hg, hn, hm, r⟩
  · exact absurd rfl hvn
  refine wp_app_at s x 22 ho B 5 i0 (.int .u8 0) 1 1 Tryd.underlying22 hi hz0 hz1 hz2 rfl (by decide) b zs.length _ hs hown ⟨g, 0, none⟩ ys.length cap (ys.map (Value.int .u8)) hx (by simp) (World.ownsRow.cells hv' rfl) (ints_oneCell .u8 _) (by unfold maxLen; omega) (by omega) hB ?_
  intro v' w' h1 h2 h3
  refine h v' w' ?_ (Gr.app h2 h3) ?_
  · unfold Own; rw [List.length_append, List.map_append]; exact h1
  · rcases h3 with h3 | h3
    · rw [h3]; exact hbn
    · rw [h3]; simp

theorem wpList_appB {w : World} {ops : Array Oper} {rest : List Oper} {o : Oper} {a : Act} {Q : Exit → Act → World → Prop} (hgd : o.guard = none) (s x : Operand)
    (ho : o.op = .call { callee := .builtin .append, args := #[s, x], argTypes := #[22, 22] })
    (B B' : Nat) (b v : Value) (zs ys : List Int) (hs : a.eval s = b) (hown : Own w B b zs) (hx : a.eval x = v) (hv : Own w B' v ys) (hvn : v.ownBlock ≠ none) (hbn : b.ownBlock ≠ none) (hl : zs.length + ys.length ≤ 1000000000) (hB : B ≤ w.heap.size)
    (h : ∀ v' w', Own w' B v' (zs ++ ys) → Gr w w' b v' → v'.ownBlock ≠ none → wpList Tryd.prog ops Q rest (a.put o.dst v') w') : wpList Tryd.prog ops Q (o :: rest) a w :=
  wpList_plain hgd fun _ hK => wp_appB s x ho B B' b v zs ys hs hown hx hv hvn hbn hl hB fun v' w' h2 h3 h4 => hK _ _ (h v' w' h2 h3 h4)

theorem Own.some {w : World} {B : Nat} {v : Value} {zs : List Int} (h : Own w B v zs) (hz : 0 < zs.length) : v.ownBlock ≠ none := by
  obtain ⟨h1, h2⟩ := h
  rcases h2 with ⟨_, h2⟩ | ⟨g, cap, cur, rfl, _⟩
  · omega
  · simp [Value.ownBlock]
end Go.Proofs.YthkppnmnjboiaaaDoor
