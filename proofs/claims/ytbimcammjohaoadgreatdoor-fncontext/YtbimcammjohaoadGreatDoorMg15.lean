import Derived.Test.YtbimcammjohaoadGreatDoorMg14
namespace Go.Proofs.YtbimcammjohaoadGreatDoor
open Go.ChangeShapes Go.WideShapes Go.ChangeAt Go.RowKit Go.Maps Go.Sort
set_option linter.unusedVariables false
set_option linter.unusedSimpArgs false

theorem cell_three_new (w : World) (x y z : Value) (t : TypeId) : ∀ j u, [x, y, z][j]? = some u → (w.alloc (.cells #[x, y, z] t)).cell? ((⟨w.heap.size, 0, none⟩ : Addr).add j) = some u := by
  intro j u hj
  match j, hj with
  | 0, hj => simp at hj; subst hj; simp [Addr.add]
  | 1, hj => simp at hj; subst hj; simp [Addr.add]
  | 2, hj => simp at hj; subst hj; simp [Addr.add]

def runCells (r : Int) (l : List (Int × Int)) : List Value := l.flatMap fun p => [.int .i64 r, .int .i64 p.1, .int .i64 p.2]
theorem runCells_snoc (r : Int) (l : List (Int × Int)) (p : Int × Int) : runCells r (l ++ [p]) = runCells r l ++ [.int .i64 r, .int .i64 p.1, .int .i64 p.2] := by simp [runCells]

theorem RSeg.at {w : World} {a : Option Addr} {n : Nat} {R F T : Nat → Int} (h : RSeg w a n R F T) {k : Nat} (hk : k < n) : ∃ b off, a = some ⟨b, off, none⟩ ∧ b < w.heap.size ∧ w.cell? ⟨b, off + k * 3, none⟩ = some (.int .i64 (R k)) ∧ w.cell? ⟨b, off + k * 3 + 1, none⟩ = some (.int .i64 (F k)) ∧ w.cell? ⟨b, off + k * 3 + 2, none⟩ = some (.int .i64 (T k)) := by
  rcases h with h | ⟨b, off, rfl, hb, hc⟩
  · omega
  · exact ⟨b, off, rfl, hb, hc k hk⟩

end Go.Proofs.YtbimcammjohaoadGreatDoor

namespace Go.Proofs.YtbimcammjohaoadGreatDoor
open Go.ChangeShapes Go.WideShapes Go.ChangeAt Go.RowKit Go.Maps Go.Sort
set_option linter.unusedVariables false
set_option linter.unusedSimpArgs false

theorem wp_appB {w : World} {o : Oper} {a : Act} {K : Act → World → Prop} {Q : Exit → Act → World → Prop} (s x : Operand)
    (ho : o.op = .call { callee := .builtin .append, args := #[s, x], argTypes := #[22, 22] })
    (B B' : Nat) (b v : Value) (zs ys : List Int) (hs : a.eval s = b) (hown : Own w B b zs) (hx : a.eval x = v) (hv : Own w B' v ys) (hvn : v.ownBlock ≠ none) (hbn : b.ownBlock ≠ none) (hl : zs.length + ys.length ≤ 1000000000) (hB : B ≤ w.heap.size)
    (h : ∀ v' w', Own w' B v' (zs ++ ys) → Gr w w' b v' → v'.ownBlock ≠ none → K (a.put o.dst v') w') : o.wp Tryz.prog a w K Q := by
  obtain ⟨i0, hi, hz0, hz1, hz2⟩ := info_parts Tryz.infoByte
  have hv' := hv
  obtain ⟨hv1, hv2⟩ := hv
  rcases hv2 with ⟨rfl, _⟩ | ⟨g, cap, cur, rfl, hbg, hg, hn, hm, r⟩
  · exact absurd rfl hvn
  refine wp_app_at s x 22 ho B 5 i0 (.int .u8 0) 1 1 Tryz.underlying22 hi hz0 hz1 hz2 rfl (by decide) b zs.length _ hs hown ⟨g, 0, none⟩ ys.length cap (ys.map (Value.int .u8)) hx (by simp) (World.ownsRow.cells hv' rfl) (ints_oneCell .u8 _) (by unfold maxLen; omega) (by omega) hB ?_
  intro v' w' h1 h2 h3
  refine h v' w' ?_ (Gr.app h2 h3) ?_
  · unfold Own; rw [List.length_append, List.map_append]; exact h1
  · rcases h3 with h3 | h3
    · rw [h3]; exact hbn
    · rw [h3]; simp

theorem wpList_appB {w : World} {ops : Array Oper} {rest : List Oper} {o : Oper} {a : Act} {Q : Exit → Act → World → Prop} (hgd : o.guard = none) (s x : Operand)
    (ho : o.op = .call { callee := .builtin .append, args := #[s, x], argTypes := #[22, 22] })
    (B B' : Nat) (b v : Value) (zs ys : List Int) (hs : a.eval s = b) (hown : Own w B b zs) (hx : a.eval x = v) (hv : Own w B' v ys) (hvn : v.ownBlock ≠ none) (hbn : b.ownBlock ≠ none) (hl : zs.length + ys.length ≤ 1000000000) (hB : B ≤ w.heap.size)
    (h : ∀ v' w', Own w' B v' (zs ++ ys) → Gr w w' b v' → v'.ownBlock ≠ none → wpList Tryz.prog ops Q rest (a.put o.dst v') w') : wpList Tryz.prog ops Q (o :: rest) a w :=
  wpList_plain hgd fun _ hK => wp_appB s x ho B B' b v zs ys hs hown hx hv hvn hbn hl hB fun v' w' h2 h3 h4 => hK _ _ (h v' w' h2 h3 h4)

theorem Own.some {w : World} {B : Nat} {v : Value} {zs : List Int} (h : Own w B v zs) (hz : 0 < zs.length) : v.ownBlock ≠ none := by
  obtain ⟨h1, h2⟩ := h
  rcases h2 with ⟨_, h2⟩ | ⟨g, cap, cur, rfl, _⟩
  · omega
  · simp [Value.ownBlock]

def bodyF (L : Int → List (Int × Int)) (k : Nat) : List Int := (KS L k).flatMap (repB L)
theorem putK_flat (L : Int → List (Int × Int)) (ks : List Int) : ∀ k, k ≤ ks.length → putK L ks k = (ks.take k).flatMap (repB L)
  | 0, _ => by simp [putK]
  | k + 1, h => by
    have e : ks.take (k + 1) = ks.take k ++ [ks.getD k 0] := by
      rw [List.take_add_one]; simp [List.getD, show k < ks.length by omega]
    rw [e, List.flatMap_append, ← putK_flat L ks k (by omega)]
    simp [putK]
theorem putB_eq (L : Int → List (Int × Int)) : putB L = uvF 9 (KS L 8).length ++ bodyF L 8 := by
  unfold putB bodyF; rw [putK_flat L _ _ (Nat.le_refl _), List.take_length]
theorem KS_yes {L : Int → List (Int × Int)} {k : Nat} (h : L (k : Int) ≠ []) : KS L (k + 1) = KS L k ++ [(k : Int)] := by
  have : (L (k : Int)).isEmpty = false := by cases e : L (k : Int) with | nil => exact absurd e h | cons _ _ => rfl
  simp [KS, this]
theorem KS_no {L : Int → List (Int × Int)} {k : Nat} (h : L (k : Int) = []) : KS L (k + 1) = KS L k := by simp [KS, h]
theorem bodyF_yes {L : Int → List (Int × Int)} {k : Nat} (h : L (k : Int) ≠ []) : bodyF L (k + 1) = bodyF L k ++ (uvF 9 k ++ (uvF 9 (L (k : Int)).length ++ spK (L (k : Int)) (L (k : Int)).length)) := by
  unfold bodyF; rw [KS_yes h, List.flatMap_append]; simp [repB, grpB]
theorem bodyF_no {L : Int → List (Int × Int)} {k : Nat} (h : L (k : Int) = []) : bodyF L (k + 1) = bodyF L k := by
  unfold bodyF; rw [KS_no h]
theorem bodyF_len {L : Int → List (Int × Int)} (hL : ∀ r, (L r).length ≤ 1000) : ∀ k, (bodyF L k).length ≤ 30000 * k
  | 0 => by simp [bodyF, KS]
  | k + 1 => by
    have := bodyF_len hL k
    by_cases h : L (k : Int) = []
    · rw [bodyF_no h]; omega
    · have h1 := (uvF_len 9 k).1
      have h2 := (uvF_len 9 (L (k : Int)).length).1
      have h3 := spK_len (L (k : Int)) (L (k : Int)).length
      have h4 := hL (k : Int)
      rw [bodyF_yes h]; simp only [List.length_append]; omega

def lastK (l : List (Int × Int)) (j : Nat) : Int := loK l j - 2

theorem run_at {w : World} {B n cap g : Nat} {r : Int} {l : List (Int × Int)} (h : w.ownsRow B 41 3 (.slice (some ⟨g, 0, none⟩) n cap) n (runCells r l)) (hl : l.length = n) :
    ∀ i, i < n → w.cell? ⟨g, i * 3 + 1, none⟩ = some (.int .i64 (sF l i)) ∧ w.cell? ⟨g, i * 3 + 2, none⟩ = some (.int .i64 (sT l i)) := by
  intro i hi
  have key : ∀ (l : List (Int × Int)) (i : Nat), i < l.length → (runCells r l)[i * 3 + 1]? = some (.int .i64 (l.getD i (0, 0)).1) ∧ (runCells r l)[i * 3 + 2]? = some (.int .i64 (l.getD i (0, 0)).2) := by
    intro l
    induction l with
    | nil => intro i hi; simp at hi
    | cons a l ih =>
      intro i hi
      cases i with
      | zero => simp [runCells]
      | succ i =>
        have := ih i (by simpa using hi)
        have e : runCells r (a :: l) = .int .i64 r :: .int .i64 a.1 :: .int .i64 a.2 :: runCells r l := by simp [runCells]
        rw [e, show (i + 1) * 3 + 1 = i * 3 + 1 + 1 + 1 + 1 from by omega, show (i + 1) * 3 + 2 = i * 3 + 2 + 1 + 1 + 1 from by omega]
        simpa using this
  rw [h.cellAt _ (by omega), h.cellAt _ (by omega)]
  exact key l i (by omega)

end Go.Proofs.YtbimcammjohaoadGreatDoor
