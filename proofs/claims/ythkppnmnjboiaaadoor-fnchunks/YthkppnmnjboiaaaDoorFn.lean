import Derived.Test.YthkppnmnjboiaaaDoorFt
namespace Go.Proofs.YthkppnmnjboiaaaDoor
open Go.ChangeShapes Go.WideShapes Go.ChangeAt Go.RowKit
set_option linter.unusedVariables false
set_option linter.unusedSimpArgs false
variable {W0 wr w' : World} {cb N p c : Nat} {F : Nat → Int} {R : Nat × Nat × List (Int × List Int)} {a : Option Addr} {fv : Value} {l : List Fx}

set_option maxRecDepth 100000 in
theorem run_app_nil0 (w : World) (a' : Option Addr) (c' : Nat) (ty : TypeId) : (Builtin.append_ #[22, 22] ty #[.slice none 0 0, .slice a' 0 c']).run Tryd.prog w = .ok (.slice none 0 0) w := by
  obtain ⟨i0, hi, hz0, hz1, hz2⟩ := info_parts Tryd.infoByte
  cases a' <;> simp [Builtin.append_, run_underlying Tryd.underlying22, sizeOf, typeInfo, hi, hz1, Builtin.lenOf, Builtin.firstCells, storeCells, loadCells, loadCellsFrom, Result.andThen]
theorem wpList_app_nil0 {w : World} {ops : Array Oper} {rest : List Oper} {o : Oper} {a : Act} {Q : Exit → Act → World → Prop} (hgd : o.guard = none) (s x : Operand)
    (ho : o.op = .call { callee := .builtin .append, args := #[s, x], argTypes := #[22, 22] }) (a' : Option Addr) (c' : Nat) (hs : a.eval s = .slice none 0 0) (hx : a.eval x = .slice a' 0 c')
    (h : ∀ v' w', Hid (v' = .slice none 0 0 ∧ w' = w) → wpList Tryd.prog ops Q rest (a.put o.dst v') w') : wpList Tryd.prog ops Q (o :: rest) a w :=
  wpList_plain hgd fun _ hK => by
    unfold Oper.wp execOp
    simp only [ho, resolve, invoke, builtin, Sem.run_bind, Sem.run_pure, Result.andThen_ok, List.map_toArray, List.map_cons, List.map_nil, hs, hx, run_app_nil0]
    exact hK _ _ (h _ _ (hid ⟨rfl, rfl⟩))
theorem seg_newsO {w : World} {b off n : Nat} {f : Nat → Int} (hc : ∀ i, i < n → w.cell? ⟨b, off + i, none⟩ = some (.int .u8 (f i))) :
    ∀ j u, (cells8 f n)[j]? = some u → w.cell? ((⟨b, off, none⟩ : Addr).add j) = some u := by
  have := news_at (at' := 0) (l := n) hc (by omega)
  simpa using this

set_option maxRecDepth 100000 in
set_option maxHeartbeats 1000000 in
theorem copyC (a : Option Addr) (n c : Nat) (f : Nat → Int) (w : World) (hn : n ≤ 4194304) (hs : Seg w a n f) :
    Calls Tryd.prog 15 #[.slice a n c] w fun e w' => ∃ v, e = .returned v ∧ Own w' w.heap.size v (payl f n) ∧ Below w.heap.size w w' := by
  obtain ⟨i0, hi, hz0, hz1, hz2⟩ := info_parts Tryd.infoByte
  by_cases h0 : n = 0
  · subst h0
    have HP : Hid (Own w w.heap.size (.slice none 0 0) (payl f 0)) := hid (by unfold Own; exact World.ownsRow_nil _ _ _ _)
    clear hs
    go_enter Tryd.func15, Tryd.ntmps15
    go_wp2_with (at_builtin; refine wpList_app_nil0 rfl _ _ rfl a c rfl rfl ?_)
    intro v' w' hv
    obtain ⟨rfl, rfl⟩ := hv.out
    go_wp2_with fail
    go_ret
    exact ⟨_, rfl, HP.out, Below.refl _ _⟩
  · rcases hs with hs | ⟨b, off, rfl, hb, hc⟩
    · omega
    have HC := hid (seg_newsO hc)
    have HO : Hid (w.ownsRow w.heap.size 5 1 (.slice none 0 0) 0 []) := hid (World.ownsRow_nil _ _ _ _)
    clear hc
    go_enter Tryd.func15, Tryd.ntmps15
    go_wp2_with (at_builtin; refine wpList_app_at rfl _ _ 22 rfl w.heap.size 5 i0 (.int .u8 0) 1 1 Tryd.underlying22 hi hz0 hz1 hz2 rfl (by decide) _ _ _ rfl HO.out ⟨b, off, none⟩ n c (cells8 f n) rfl (by simp [cells8]) ?c1 ?c2 ?c3 ?c4 ?c5 ?_)
    case c1 => exact HC.out
    case c2 => intro u hu; obtain ⟨i, _, rfl⟩ := List.mem_map.1 hu; rfl
    case c3 => unfold maxLen; omega
    case c4 => omega
    case c5 => exact Nat.le_refl _
    intro v4 w4 hown4 hgr4 hloc4
    have HO4 := hid (payl_own (w := w4) (B := w.heap.size) (v := v4) (f := f) (l := n) rfl (by rw [Nat.zero_add, List.nil_append]; exact hown4))
    have HB4 := hid ((Below.refl w.heap.size w).grown hgr4 (Nat.le_refl _) (fun q hq => by simp [Value.ownBlock] at hq))
    clear hown4 hgr4 hloc4
    go_wp2_with fail
    go_ret
    exact ⟨_, rfl, HO4.out, HB4.out⟩
end Go.Proofs.YthkppnmnjboiaaaDoor
