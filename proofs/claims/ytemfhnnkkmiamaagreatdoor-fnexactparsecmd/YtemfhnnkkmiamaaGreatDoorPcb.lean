import Derived.Test.YtemfhnnkkmiamaaGreatDoorPca
namespace Go.Proofs.YtemfhnnkkmiamaaGreatDoor
open Go.ChangeShapes Go.WideShapes Go.ChangeAt Go.RowKit
set_option linter.unusedVariables false
set_option linter.unusedSimpArgs false

theorem info_parts {i : Option TypeInfo} {z : Value} {s b : Nat} (h : i.map (fun i => (i.zero, i.size, i.bytes)) = some (some z, s, b)) : ∃ i0, i = some i0 ∧ i0.zero = some z ∧ i0.size = s ∧ i0.bytes = b := by
  cases i with
  | none => cases h
  | some i0 =>
    simp only [Option.map_some, Option.some.injEq, Prod.mk.injEq] at h
    exact ⟨i0, rfl, h.1, h.2.1, h.2.2⟩
theorem wp_app2 {P : Program} {o : Oper} {a : Act} {w w' : World} {K : Act → World → Prop} {Q : Exit → Act → World → Prop} (s x : Operand) (t u : TypeId) (ho : o.op = .call { callee := .builtin .append, args := #[s, x], argTypes := #[t, u] }) {v x' v' : Value} {t' : TypeId} (hr : (Builtin.append_ #[t, u] t' #[v, x']).run P w = .ok v' w') (hs : a.eval s = v) (hx : a.eval x = x') (ht : o.type = t') (h : K (a.put o.dst v') w') : Oper.wp P o a w K Q := by
  subst ht
  unfold Oper.wp execOp
  simp only [ho, resolve, invoke, builtin, Sem.run_bind, Sem.run_pure, Result.andThen_ok, List.map_toArray, List.map_cons, List.map_nil, hs, hx, hr]
  exact h
theorem wpList_app2 {P : Program} {ops : Array Oper} {rest : List Oper} {o : Oper} {a : Act} {w w' : World} {Q : Exit → Act → World → Prop} (hgd : o.guard = none) (s x : Operand) (t u : TypeId) (ho : o.op = .call { callee := .builtin .append, args := #[s, x], argTypes := #[t, u] }) {v x' v' : Value} {t' : TypeId} (hr : (Builtin.append_ #[t, u] t' #[v, x']).run P w = .ok v' w') (hs : a.eval s = v) (hx : a.eval x = x') (ht : o.type = t') (h : wpList P ops Q rest (a.put o.dst v') w') : wpList P ops Q (o :: rest) a w := by
  refine wpList_plain hgd fun K hK => ?_
  exact wp_app2 s x t u ho hr hs hx ht (hK _ _ h)

theorem infoTxt : (Tryz.prog.info? 9).map (fun i => (i.zero, i.size, i.bytes)) = some (some (.string ByteArray.empty), 1, 16) := by kernel_rfl
def tRow (ts : List ByteArray) : List Value := ts.map Value.string
def SO (w : World) (B : Nat) (v : Value) (ts : List ByteArray) : Prop := w.ownsRow B 9 1 v ts.length (tRow ts) ∧ v ≠ .slice none 0 0
theorem SO.lt {w : World} {B : Nat} {v : Value} {ts : List ByteArray} (h : SO w B v ts) : ∀ g, v.ownBlock = some g → B ≤ g ∧ g < w.heap.size := fun g e => World.ownsRow.lt h.1 g e
theorem own_atP {w w' : World} {B e size n : Nat} {v : Value} {xs : List Value} (h : w.ownsRow B e size v n xs) (hk : ∀ g, v.ownBlock = some g → w'.heap[g]? = w.heap[g]?) : w'.ownsRow B e size v n xs := by
  obtain ⟨q1, q2⟩ := h
  refine ⟨q1, ?_⟩
  rcases q2 with q2 | ⟨g, cap, cur, e, hbg, hb, r⟩
  · exact .inl q2
  · subst e; exact .inr ⟨g, cap, cur, rfl, hbg, (hk g rfl).trans hb, r⟩
theorem SO.below {w w1 : World} {B : Nat} {v : Value} {ts : List ByteArray} (h : SO w B v ts) (hb : Below w.heap.size w w1) : SO w1 B v ts := ⟨own_atP h.1 (fun g hg => hb.block g (h.lt g hg).2), h.2⟩
theorem SO.new (w : World) : SO (w.alloc (.cells #[] 9)) w.heap.size (.slice (some ⟨w.heap.size, 0, none⟩) 0 0) [] := by
  refine ⟨?_, fun e => by cases e⟩
  exact World.ownsRow_lit (base := w.heap.size) (e := 9) (size := 1) w #[] 0 (Nat.le_refl _) (by unfold maxLen; omega) rfl
theorem strApp1 (B : Nat) (w : World) (v : Value) (ts : List ByteArray) (x : ByteArray) (h : SO w B v ts) (hB : B ≤ w.heap.size) (hl : ts.length ≤ 4194304) :
    ∃ v' w', (Builtin.append_ #[22, 22] 22 #[v, .slice (some ⟨w.heap.size, 0, none⟩) 1 1]).run Tryz.prog (w.alloc (.cells #[.string x] 9)) = .ok v' w' ∧ SO w' B v' (ts ++ [x]) ∧ Below B w w' := by
  obtain ⟨i0, hi, hz0, hz1, hz2⟩ := info_parts infoTxt
  have b1 : Below w.heap.size w (w.alloc (.cells #[.string x] 9)) := (Below.refl _ _).alloc (Nat.le_refl _) _
  have h1 := h.below b1
  obtain ⟨v', w', k1, k2, k3, k4⟩ := run_append_own (P := Tryz.prog) (w.alloc (.cells #[.string x] 9)) B 22 22 9 i0 (.string ByteArray.empty) 1 16 Tryz.underlying22 hi hz0 hz1 hz2 rfl (by decide) v ts.length (tRow ts) h1.1 ⟨w.heap.size, 0, none⟩ 1 1 (tRow [x]) rfl (fun j u hu => by
    match j, hu with
    | 0, hu => simp [tRow] at hu; subst hu; simp [Addr.add]
    | j + 1, hu => simp [tRow] at hu) (fun u hu => by
      obtain ⟨s, _, rfl⟩ := List.mem_map.1 hu
      rfl) (by unfold maxLen; omega) (by omega) (by simp; omega)
  refine ⟨v', w', k1, ⟨?_, fun e => h.2 (k4.1 e).1⟩, ?_⟩
  · rw [List.length_append]; simpa [tRow] using k2
  · exact (b1.mono hB).grown k3 (by simp; omega) (fun k hk => (h1.lt k hk).1)
theorem SO.cells {w : World} {B : Nat} {v : Value} {ts : List ByteArray} (h : SO w B v ts) : ∃ g c, v = .slice (some ⟨g, 0, none⟩) ts.length c ∧ B ≤ g ∧ ts.length ≤ c ∧ c ≤ 9223372036854775807 ∧ SSeg w (some ⟨g, 0, none⟩) ts := by
  rcases h.1.2 with ⟨e, h0⟩ | ⟨g, cap, cur, rfl, hbase, hb, h1, h2, h3, h4⟩
  · exact absurd e h.2
  · refine ⟨g, cap, rfl, hbase, h1, by unfold maxLen at h2; omega, .inr ⟨g, 0, rfl, (Array.getElem?_eq_some_iff.1 hb).1, fun i hi => ?_⟩⟩
    have q : w.cell? ⟨g, i, none⟩ = (tRow ts)[i]? := by
      rw [← h4, Nat.mul_one, List.getElem?_take_of_lt hi]
      simp [World.cell?, hb]
    rw [Nat.zero_add, q]
    simp [tRow, gS, List.getD, hi]

structure CtI (c : UInt8) (s : ByteArray) (k f : Nat) (ts : List ByteArray) : Prop where
  hk : k ≤ s.size + 1
  go : k ≤ s.size → f ≤ k ∧ (∀ j, f ≤ j → j < k → s.data.toList[j]? ≠ some c) ∧ ts ++ cutW c (s.extract f s.size) = cutW c s
  fin : k = s.size + 1 → ts = cutW c s
  len : ts.length ≤ k
theorem CtI.start (c : UInt8) (s : ByteArray) : CtI c s 0 0 [] := ⟨by omega, fun _ => ⟨by omega, fun j _ h => by omega, by simp⟩, fun h => by omega, by simp⟩
theorem CtI.hit {c : UInt8} {s : ByteArray} {k f : Nat} {ts : List ByteArray} (h : CtI c s k f ts) (hk : k < s.size) (hc : s.data.toList[k]? = some c) : CtI c s (k + 1) (k + 1) (ts ++ [s.extract f k]) := by
  obtain ⟨h1, h2, h3⟩ := h.go (by omega)
  refine ⟨by omega, fun _ => ⟨by omega, fun j a b => by omega, ?_⟩, fun e => by omega, by have := h.len; simp; omega⟩
  rw [← h3, cut_step h1 hk h2 hc]; simp
theorem CtI.miss {c : UInt8} {s : ByteArray} {k f : Nat} {ts : List ByteArray} (h : CtI c s k f ts) (hk : k < s.size) (hc : s.data.toList[k]? ≠ some c) : CtI c s (k + 1) f ts := by
  obtain ⟨h1, h2, h3⟩ := h.go (by omega)
  refine ⟨by omega, fun _ => ⟨by omega, fun j a b => ?_, h3⟩, fun e => by omega, by have := h.len; omega⟩
  by_cases e : j = k
  · rw [e]; exact hc
  · exact h2 j a (by omega)
theorem CtI.last {c : UInt8} {s : ByteArray} {f : Nat} {ts : List ByteArray} (h : CtI c s s.size f ts) : CtI c s (s.size + 1) (s.size + 1) (ts ++ [s.extract f s.size]) := by
  obtain ⟨h1, h2, h3⟩ := h.go (Nat.le_refl _)
  refine ⟨by omega, fun e => by omega, fun _ => ?_, by have := h.len; simp; omega⟩
  rw [← h3, cut_last h2]
end Go.Proofs.YtemfhnnkkmiamaaGreatDoor
