import Derived.Test.YthkppnmnjboiaaaDoorWv
import Derived.Maps.AppendAt
namespace Go.Proofs.YthkppnmnjboiaaaDoor
open Go.ChangeShapes Go.WideShapes Go.ChangeAt Go.RowKit
set_option linter.unusedVariables false
set_option linter.unusedSimpArgs false

theorem wp_app_at {P : Program} {o : Oper} {a : Act} {w : World} {K : Act → World → Prop} {Q : Exit → Act → World → Prop} (s x : Operand) (t : TypeId)
    (ho : o.op = .call { callee := .builtin .append, args := #[s, x], argTypes := #[t, t] })
    (base : Nat) (e : TypeId) (i : TypeInfo) (z : Value) (size bytes : Nat) (ht : P.underlying t = some (.slice e)) (hi : P.info? e = some i) (hz : i.zero = some z)
    (hsize : i.size = size) (hby : i.bytes = bytes) (hzs : z.cells.size = size) (hsz : 0 < size)
    (v : Value) (n : Nat) (xs : List Value) (hs : a.eval s = v) (hown : w.ownsRow base e size v n xs)
    (ad : Addr) (m c : Nat) (news : List Value) (hx : a.eval x = .slice (some ad) m c) (hl : news.length = m * size) (hnews : ∀ j u, news[j]? = some u → w.cell? (ad.add j) = some u) (h1 : ∀ u ∈ news, u.oneCell' = true)
    (h63 : n + m ≤ maxLen) (hbytes : (n + m) * bytes ≤ 140737488355328) (hbase : base ≤ w.heap.size)
    (h : ∀ v' w', w'.ownsRow base e size v' (n + m) (xs ++ news) → w.grownBy w' v.ownBlock → (v'.ownBlock = v.ownBlock ∨ v'.ownBlock = some w.heap.size) → K (a.put o.dst v') w') : o.wp P a w K Q := by
  obtain ⟨v', w', hr, h2, h3, h4, h5⟩ := run_append_own_at (P := P) w base t o.type e i z size bytes ht hi hz hsize hby hzs hsz v n xs hown ad m c news hl hnews h1 h63 hbytes hbase
  unfold Oper.wp execOp
  simp only [ho, resolve, invoke, builtin, Sem.run_bind, Sem.run_pure, Result.andThen_ok, List.map_toArray, List.map_cons, List.map_nil, hs, hx, hr]
  exact h v' w' h2 h3 h5

theorem wpList_app_at {P : Program} {w : World} {ops : Array Oper} {rest : List Oper} {o : Oper} {a : Act} {Q : Exit → Act → World → Prop} (hgd : o.guard = none) (s x : Operand) (t : TypeId)
    (ho : o.op = .call { callee := .builtin .append, args := #[s, x], argTypes := #[t, t] })
    (base : Nat) (e : TypeId) (i : TypeInfo) (z : Value) (size bytes : Nat) (ht : P.underlying t = some (.slice e)) (hi : P.info? e = some i) (hz : i.zero = some z)
    (hsize : i.size = size) (hby : i.bytes = bytes) (hzs : z.cells.size = size) (hsz : 0 < size)
    (v : Value) (n : Nat) (xs : List Value) (hs : a.eval s = v) (hown : w.ownsRow base e size v n xs)
    (ad : Addr) (m c : Nat) (news : List Value) (hx : a.eval x = .slice (some ad) m c) (hl : news.length = m * size) (hnews : ∀ j u, news[j]? = some u → w.cell? (ad.add j) = some u) (h1 : ∀ u ∈ news, u.oneCell' = true)
    (h63 : n + m ≤ maxLen) (hbytes : (n + m) * bytes ≤ 140737488355328) (hbase : base ≤ w.heap.size)
    (h : ∀ v' w', w'.ownsRow base e size v' (n + m) (xs ++ news) → w.grownBy w' v.ownBlock → (v'.ownBlock = v.ownBlock ∨ v'.ownBlock = some w.heap.size) → wpList P ops Q rest (a.put o.dst v') w') : wpList P ops Q (o :: rest) a w :=
  wpList_plain hgd fun _ hK => wp_app_at s x t ho base e i z size bytes ht hi hz hsize hby hzs hsz v n xs hs hown ad m c news hx hl hnews h1 h63 hbytes hbase fun v' w' h2 h3 h4 => hK _ _ (h v' w' h2 h3 h4)

structure Gr (w w' : World) (b0 b : Value) : Prop where
  g : w.grownBy w' b0.ownBlock
  l : b.ownBlock = b0.ownBlock ∨ ∃ k, b.ownBlock = some k ∧ w.heap.size ≤ k

theorem Gr.refl (w : World) (b : Value) : Gr w w b b := ⟨⟨rfl, rfl, rfl, Nat.le_refl _, fun _ _ _ => rfl⟩, .inl rfl⟩
theorem Gr.trans {w w1 w2 : World} {b0 b1 b2 : Value} (h1 : Gr w w1 b0 b1) (h2 : Gr w1 w2 b1 b2) : Gr w w2 b0 b2 := by
  refine ⟨h1.g.andThen h2.g (fun j hj => ?_), ?_⟩
  · rcases h1.l with e | ⟨k, e, hk⟩
    · exact .inr (e ▸ hj)
    · rw [e] at hj; injection hj with hj; exact .inl (by omega)
  · rcases h2.l with e | ⟨k, e, hk⟩
    · rw [e]; exact h1.l
    · exact .inr ⟨k, e, Nat.le_trans h1.g.size hk⟩
theorem Gr.alloc {w w1 : World} {b0 b : Value} (h : Gr w w1 b0 b) (o : Obj) : Gr w (w1.alloc o) b0 b :=
  h.trans ⟨World.grownBy_alloc w1 o _, .inl rfl⟩
theorem Gr.app {w w1 : World} {b b' : Value} (h : w.grownBy w1 b.ownBlock) (hl : b'.ownBlock = b.ownBlock ∨ b'.ownBlock = some w.heap.size) : Gr w w1 b b' :=
  ⟨h, hl.imp id (fun e => ⟨_, e, Nat.le_refl _⟩)⟩
theorem Gr.below {w w1 : World} {b b' : Value} {B : Nat} (h : Gr w w1 b b') (hB : B ≤ w.heap.size) (hb : ∀ k, b.ownBlock = some k → B ≤ k) : Below B w w1 :=
  (Below.refl B w).grown h.g hB hb
theorem Gr.of_below {w w1 : World} {b : Value} (h : Below w.heap.size w w1) : Gr w w1 b b :=
  ⟨⟨h.os, h.tape, h.output, h.size, fun k hk _ => h.block k hk⟩, .inl rfl⟩

end Go.Proofs.YthkppnmnjboiaaaDoor
