import Derived.Test.YtcbcabhjododoaaGreatFg18
import Derived.Test.YtcbcabhjododoaaGreatFg08
import Derived.Maps.AppendAt
import Derived.Maps.Range
set_option linter.unusedVariables false
set_option linter.unusedSimpArgs false
set_option maxRecDepth 100000
set_option maxHeartbeats 40000000
namespace Go.Proofs.YtcbcabhjododoaaGreat
open Go.ChangeShapes Go.WideShapes Go.ChangeAt Go.RowKit
theorem nx_name {p : List ByteArray} {x : Lf} {y : Ky} (hx : LfOk1 x) (h : nx p x = some y) : y.1.size ≤ 40 := by
 rw [nx_some] at h
 obtain ⟨⟨_, hl⟩, e⟩ := h
 have e1 := congrArg Prod.fst e
 unfold onWay at e1
 dsimp only at e1
 rw [← e1]
 exact (hx.1.2.2 _ hl).2
section
variable {R F T : Nat → Int} {n : Nat} {l : List Lf} {p : List ByteArray} {i e j g : Nat} {y : Ky}
end
theorem wpList_app_at {P : Program} {w : World} {ops : Array Oper} {rest : List Oper} {o : Oper} {a : Act} {Q : Exit → Act → World → Prop} (hgd : o.guard = none) (s x : Operand) (t : TypeId)
  (ho : o.op = .call { callee := .builtin .append, args := #[s, x], argTypes := #[t, t] })
  (base : Nat) (e : TypeId) (i : TypeInfo) (z : Value) (size bytes : Nat) (ht : P.underlying t = some (.slice e)) (hi : P.info? e = some i) (hz : i.zero = some z)
  (hsize : i.size = size) (hby : i.bytes = bytes) (hzs : z.cells.size = size) (hsz : 0 < size)
  (v : Value) (n : Nat) (xs : List Value) (hs : a.eval s = v) (hown : w.ownsRow base e size v n xs)
  (ad : Addr) (m c : Nat) (news : List Value) (hx : a.eval x = .slice (some ad) m c) (hl : news.length = m * size) (hnews : ∀ j u, news[j]? = some u → w.cell? (ad.add j) = some u) (h1 : ∀ u ∈ news, u.oneCell' = true)
  (h63 : n + m ≤ maxLen) (hbytes : (n + m) * bytes ≤ 140737488355328) (hbase : base ≤ w.heap.size)
  (h : ∀ v' w', w'.ownsRow base e size v' (n + m) (xs ++ news) → w.grownBy w' v.ownBlock → (v'.ownBlock = v.ownBlock ∨ v'.ownBlock = some w.heap.size) → wpList P ops Q rest (a.put o.dst v') w') : wpList P ops Q (o :: rest) a w :=
 wpList_plain hgd fun _ hK => wp_app_at s x t ho base e i z size bytes ht hi hz hsize hby hzs hsz v n xs hs hown ad m c news hx hl hnews h1 h63 hbytes hbase fun v' w' h2 h3 h4 => hK _ _ (h v' w' h2 h3 h4)
structure Gr (w w' : World) (b0 b : Value) : Prop where
 g : w.grownBy w' b0.ownBlock
 l : b.ownBlock = b0.ownBlock ∨ ∃ k, b.ownBlock = some k ∧ w.heap.size ≤ k
theorem Gr.refl (w : World) (b : Value) : Gr w w b b := ⟨⟨rfl, rfl, rfl, Nat.le_refl _, fun _ _ _ => rfl⟩, .inl rfl⟩
theorem Gr.trans {w w1 w2 : World} {b0 b1 b2 : Value} (h1 : Gr w w1 b0 b1) (h2 : Gr w1 w2 b1 b2) : Gr w w2 b0 b2 := by
 refine ⟨h1.g.andThen h2.g (fun j hj => ?_), ?_⟩
 ·rcases h1.l with e | ⟨k, e, hk⟩
  ·exact .inr (e ▸ hj)
  ·rw [e] at hj; injection hj with hj; exact .inl (by omega)
 ·rcases h2.l with e | ⟨k, e, hk⟩
  ·rw [e]; exact h1.l
  ·exact .inr ⟨k, e, Nat.le_trans h1.g.size hk⟩
theorem Gr.alloc {w w1 : World} {b0 b : Value} (h : Gr w w1 b0 b) (o : Obj) : Gr w (w1.alloc o) b0 b :=
 h.trans ⟨World.grownBy_alloc w1 o _, .inl rfl⟩
theorem Gr.app {w w1 : World} {b b' : Value} (h : w.grownBy w1 b.ownBlock) (hl : b'.ownBlock = b.ownBlock ∨ b'.ownBlock = some w.heap.size) : Gr w w1 b b' :=
 ⟨h, hl.imp id (fun e => ⟨_, e, Nat.le_refl _⟩)⟩
theorem Gr.below {w w1 : World} {b b' : Value} {B : Nat} (h : Gr w w1 b b') (hB : B ≤ w.heap.size) (hb : ∀ k, b.ownBlock = some k → B ≤ k) : Below B w w1 :=
 (Below.refl B w).grown h.g hB hb
theorem Gr.of_below {w w1 : World} {b : Value} (h : Below w.heap.size w w1) : Gr w w1 b b :=
 ⟨⟨h.os, h.tape, h.output, h.size, fun k hk _ => h.block k hk⟩, .inl rfl⟩
end Go.Proofs.YtcbcabhjododoaaGreat
namespace Go.Proofs.YtcbcabhjododoaaGreat
open Go.ChangeShapes Go.WideShapes Go.ChangeAt Go.RowKit Go.Maps
end Go.Proofs.YtcbcabhjododoaaGreat
