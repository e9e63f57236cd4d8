import Derived.Test.YtbimcammjohaoacDoorNum
import Derived.Test.YtbimcammjohaoacDoorLaid
namespace Go.Proofs.YtbimcammjohaoacDoor
open Go.ChangeShapes Go.WideShapes Go.ChangeAt Go.RowKit
set_option linter.unusedVariables false
set_option linter.unusedSimpArgs false

theorem Bys.kept {w w' : World} {B : Nat} {v : Value} {zs : List Int} (h : Bys w B v zs) (hb : Below w.heap.size w w') : Bys w' B v zs :=
  ⟨Own.kept h.1 hb (fun k hk => (World.ownsRow.lt h.1 k hk).2), h.2⟩
theorem Bys.seg {w : World} {B : Nat} {v : Value} {zs : List Int} (h : Bys w B v zs) : ∃ a c, v = .slice a zs.length c ∧ zs.length ≤ c ∧ Seg w a zs.length (fun i => zs.getD i 0) ∧ (∀ y, a = some y → y.block < w.heap.size) := by
  obtain ⟨ho, hby⟩ := h
  rcases ho.2 with ⟨rfl, h0⟩ | ⟨g, cap, cur, rfl, hb, hg, hnc, hcm, _⟩
  · exact ⟨none, 0, by rw [h0], by omega, .inl h0, fun y hy => by cases hy⟩
  · refine ⟨_, cap, rfl, hnc, ?_, fun y hy => by injection hy with hy; subst hy; exact (World.ownsRow.lt ho g rfl).2⟩
    by_cases hz : zs = []
    · exact .inl (by rw [hz]; rfl)
    · obtain ⟨g', cap', e, _, _, _, _, _, s⟩ := ho.shape hz
      injection e with e1 e2 e3
      rw [e1]; exact s

theorem Bys.cells {w : World} {B : Nat} {v : Value} {zs : List Int} (h : Bys w B v zs) (hz : zs ≠ []) : ∃ g cap, v = .slice (some ⟨g, 0, none⟩) zs.length cap ∧ B ≤ g ∧ g < w.heap.size ∧ (∀ j u, (zs.map (Value.int .u8))[j]? = some u → w.cell? ((⟨g, 0, none⟩ : Addr).add j) = some u) := by
  obtain ⟨g, cap, e, hb, hg, _, _, hc, _⟩ := h.1.shape hz
  exact ⟨g, cap, e, hb, hg, hc⟩
theorem one_map (zs : List Int) : ∀ u ∈ zs.map (Value.int .u8), u.oneCell' = true := by
  intro u hu
  obtain ⟨z, _, rfl⟩ := List.mem_map.1 hu
  rfl

theorem add_block (g j : Nat) : ((⟨g, 0, none⟩ : Addr).add j).block = g := by
  by_cases h0 : j = 0
  · subst h0; simp [Addr.add]
  · simp [Addr.add, h0]
theorem owns_kept {w w' : World} {B n : Nat} {e : TypeId} {size : Nat} {v : Value} {xs : List Value} (h : w.ownsRow B e size v n xs) (hb : Below w.heap.size w w') : w'.ownsRow B e size v n xs :=
  World.ownsRow.kept (row := none) h ⟨hb.os, hb.tape, hb.output, hb.size, fun k hk _ => hb.block k hk⟩ (by
    cases v.ownBlock with
    | none => exact .inl rfl
    | some g => exact .inr (by simp))
def bytesStr (L : List Int) : ByteArray := ⟨(L.map fun z => UInt8.ofNat z.toNat).toArray⟩
theorem strF_bytes (f : Nat → Int) (p L : Nat) : strF f p L = bytesStr ((List.range L).map fun i => f (p + i)) := by
  simp [strF, bytesStr, List.map_map, Function.comp_def]
theorem bytesStr_getD (zs : List Int) : strF (fun i => zs.getD i 0) 0 zs.length = bytesStr zs := by
  rw [strF_bytes]
  congr 1
  apply List.ext_getElem?
  intro i
  by_cases hi : i < zs.length
  · simp [hi, List.getD]
  · rw [List.getElem?_eq_none (by simp; omega), List.getElem?_eq_none (by omega)]
set_option maxRecDepth 100000 in
theorem strBys {w : World} {B : Nat} {v : Value} {zs : List Int} (h : Bys w B v zs) (hz : zs ≠ []) : (convert 22 9 v).run Tryd.prog w = .ok (.string (bytesStr zs)) w := by
  obtain ⟨g, cap, e, hb, hg, _, _, _, s⟩ := h.1.shape hz
  subst e
  rcases s with h0 | ⟨b, off, e, hb, hc⟩
  · exact absurd (List.length_eq_zero_iff.1 h0) hz
  · injection e with e
    injection e with e1 e2 _
    subst e1 e2
    have := strF_conv (w := w) (b := g) (off := 0) (p := 0) (L := zs.length) (cap := cap) (f := fun i => zs.getD i 0) (bytesOf h.2) (fun i hi => by have := hc i hi; simpa using this)
    rw [bytesStr_getD] at this
    exact this

theorem bys_app {w : World} {B : Nat} {v : Value} {xs ys : List Int} (hx : ∀ z ∈ xs, 0 ≤ z ∧ z < 256) (hy : ∀ z ∈ ys, 0 ≤ z ∧ z < 256) (h : w.ownsRow B 5 1 v (xs.length + ys.length) (xs.map (Value.int .u8) ++ ys.map (Value.int .u8))) : Bys w B v (xs ++ ys) :=
  ⟨by show World.ownsRow _ _ _ _ _ _ _; rw [List.length_append, List.map_append]; exact h, fun z hz => by
    rcases List.mem_append.1 hz with h | h
    · exact hx z h
    · exact hy z h⟩

set_option maxRecDepth 100000 in
theorem run_app_zero (w : World) (ad : Addr) (a' : Option Addr) (c' : Nat) (ty : TypeId) : (Builtin.append_ #[22, 22] ty #[.slice (some ad) 0 0, .slice a' 0 c']).run Tryd.prog w = .ok (.slice (some ad) 0 0) w := by
  obtain ⟨i0, hi, hz0, hz1, hz2⟩ := info_parts Tryd.infoByte
  cases a' <;> simp [Builtin.append_, run_underlying Tryd.underlying22, sizeOf, typeInfo, hi, hz1, Builtin.lenOf, Builtin.firstCells, storeCells, loadCells, loadCellsFrom, Result.andThen]

theorem wpList_app_zero {w : World} {ops : Array Oper} {rest : List Oper} {o : Oper} {a : Act} {Q : Exit → Act → World → Prop} (hgd : o.guard = none) (s x : Operand)
    (ho : o.op = .call { callee := .builtin .append, args := #[s, x], argTypes := #[22, 22] }) (ad : Addr) (a' : Option Addr) (c' : Nat) (hs : a.eval s = .slice (some ad) 0 0) (hx : a.eval x = .slice a' 0 c')
    (h : ∀ v' w', Hid (v' = .slice (some ad) 0 0 ∧ w' = w) → wpList Tryd.prog ops Q rest (a.put o.dst v') w') : wpList Tryd.prog ops Q (o :: rest) a w :=
  wpList_plain hgd fun _ hK => by
    unfold Oper.wp execOp
    simp only [ho, resolve, invoke, builtin, Sem.run_bind, Sem.run_pure, Result.andThen_ok, List.map_toArray, List.map_cons, List.map_nil, hs, hx, run_app_zero]
    exact hK _ _ (h _ _ (hid ⟨rfl, rfl⟩))

theorem gtX_ok {f : Nat → Int} {n m p q : Nat} {s : ByteArray} (hg : gX f n m (p : Int) = (s.size, (q : Int), 0)) (hn : q + s.size ≤ n) (hs : strF f q s.size = s) : gtX f n m (p : Int) (s.size : Int) = (s, ((q + s.size : Nat) : Int), 0) := by
  unfold gtX
  rw [hg]
  simp only [ne_eq, not_true_eq_false, ↓reduceIte]
  rw [if_neg (by omega), if_neg (by omega)]
  simp [hs]
theorem gtX_long {f : Nat → Int} {n m p q : Nat} {s : ByteArray} (hg : gX f n m (p : Int) = (s.size, (q : Int), 0)) : gtX f n m (p : Int) ((s.size : Int) - 1) = (⟨#[]⟩, (p : Int), 4) := by
  unfold gtX
  rw [hg]
  simp only [ne_eq, not_true_eq_false, ↓reduceIte]
  rw [if_pos (by omega)]
end Go.Proofs.YtbimcammjohaoacDoor
