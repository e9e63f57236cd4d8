import Derived.Test.YtakmpmhjcngbbaaGreatDoorMgg09
import Derived.Laws.StructEq
import Derived.Maps.Own
import Derived.Maps.OwnSet
import Derived.Maps.OwnOps
import Derived.Maps.Views
import Derived.DeepKeys4
import Derived.Maps.Range
set_option linter.unusedVariables false
set_option linter.unusedSimpArgs false
set_option maxRecDepth 100000
set_option maxHeartbeats 40000000
namespace Go.Proofs.YtakmpmhjcngbbaaGreatDoor
open Go.ChangeShapes Go.WideShapes Go.ChangeAt Go.RowKit
def emB (v : ByteArray) : Bool := v.toList.isEmpty
def LfOk1 (x : Lf) : Prop := PthOk x.p ∧ x.v.size ≤ 200 ∧ (x.fl = true → emB x.v = true)
theorem dotF : Tryz.prog.fieldsOf 87 = match Tryz.prog.underlying 87 with | some (.struct fs) => fs | _ => #[] := rfl
theorem dotStood : Tryz.prog.stoodInHeld 87 = false := by kernel_rfl
theorem dotGuard : Tryz.prog.eqGuardType Tryz.prog.depth 87 = false := by kernel_rfl
theorem eqlDot (r q r' q' : Int) (w : World) : (binOp .eql 87 (.agg #[.int .i64 r, .int .i64 q]) (.agg #[.int .i64 r', .int .i64 q'])).run Tryz.prog w = .ok (.bool (r == r' && q == q')) w := by
  rw [run_eql_struct, show (10000 : Nat) = 9999 + 1 from rfl, run_equalIn_agg _ _ _ _ _ (by kernel_rfl) dotStood, dotF, Tryz.underlying87]
  cases h1 : (r == r') <;> simp [Op.eqFields, go_sem, Tryz.underlying3, h1]
  by_cases h2 : q = q' <;> simp [h2]
end Go.Proofs.YtakmpmhjcngbbaaGreatDoor
namespace Go.Proofs.YtakmpmhjcngbbaaGreatDoor
open Go.ChangeShapes Go.WideShapes Go.ChangeAt Go.RowKit Go.Maps
theorem laidOutS : laidOutB Tryz.prog = true := by kernel_rfl
theorem dotKeyed : Keyed Tryz.prog 87 := Keyed.of_law (deep_law_laid laidOutS (m := 3) (by omega) (of_decide_eq_true (by kernel_rfl)) (by kernel_rfl) (by kernel_rfl))
def dotV (r q : Int) : Value := .agg #[.int .i64 r, .int .i64 q]
theorem dotKT : Tryz.prog.keyType 87 = true := by kernel_rfl
theorem dotKey {r q : Int} (hr : (Lit.int .i64 r).wf = true) (hq : (Lit.int .i64 q).wf = true) : ∃ kl, keyOf Tryz.prog 87 (dotV r q) = some kl := by
  unfold keyOf
  rw [Tryz.underlying87]
  simp only [dotKT, Bool.true_and]
  have h0 : 0 < Tryz.prog.types.size := of_decide_eq_true (by kernel_rfl)
  obtain ⟨m, hm⟩ : ∃ m, Tryz.prog.types.size = m + 1 := ⟨Tryz.prog.types.size - 1, by omega⟩
  rw [hm]
  have e2 : Tryz.prog.cellsOf 87 = 2 := by kernel_rfl
  have ei : Tryz.prog.cellsOf 3 = 1 := by kernel_rfl
  simp [Value.formed, dotV, Tryz.underlying87, e2, Program.keyLits, Tryz.underlying3, ei, Value.cells, hr, hq]
theorem dotKey_inj {r q r' q' : Int} {kl : Lit} (h : keyOf Tryz.prog 87 (dotV r q) = some kl) (h' : keyOf Tryz.prog 87 (dotV r' q') = some kl) : r = r' ∧ q = q' := by
  have e := dotKeyed.inj h h'
  simpa [dotV] using e
def allR (v : Value) : Option (DataW Value × List MemPlace) := some (.held v, [])
theorem allR_inv {v : Value} {d : DataW Value} {ps : List MemPlace} (h : allR v = some (d, ps)) : d = .held v := by
  unfold allR at h; simp at h; exact h.1.symm
abbrev Ky := ByteArray × Int
abbrev Dt := Int × Int
def keyV (x : Ky) : Value := .agg #[.string x.1, .int .i64 x.2]
def dtV (d : Dt) : Value := dotV d.1 d.2
def mrkV : Option ByteArray → Value
  | none => .agg #[.string ByteArray.empty]
  | some s => .agg #[.string s]
def nodV : Option (Nat × Nat) → Value
  | none => .agg #[.map none, .map none]
  | some x => .agg #[.map (some x.1), .map (some x.2)]
theorem keyV_inj {x y : Ky} (h : keyV x = keyV y) : x = y := by
  obtain ⟨a, b⟩ := x; obtain ⟨c, d⟩ := y
  simpa [keyV] using h
theorem dtV_inj {x y : Dt} (h : dtV x = dtV y) : x = y := by
  obtain ⟨a, b⟩ := x; obtain ⟨c, d⟩ := y
  simpa [dtV, dotV] using h
theorem keyKeyed : Keyed Tryz.prog 110 := Keyed.of_law (deep_law_laid laidOutS (m := 3) (by omega) (of_decide_eq_true (by kernel_rfl)) (by kernel_rfl) (by kernel_rfl))
theorem keyKT : Tryz.prog.keyType 110 = true := by kernel_rfl
theorem keyKey {s : ByteArray} {k : Int} (hs : s.size ≤ maxLen) (hk : (Lit.int .i64 k).wf = true) : ∃ kl, keyOf Tryz.prog 110 (keyV (s, k)) = some kl := by
  unfold keyOf
  rw [Tryz.underlying110]
  simp only [keyKT, Bool.true_and]
  have h0 : 0 < Tryz.prog.types.size := of_decide_eq_true (by kernel_rfl)
  obtain ⟨m, hm⟩ : ∃ m, Tryz.prog.types.size = m + 1 := ⟨Tryz.prog.types.size - 1, by omega⟩
  rw [hm]
  have e2 : Tryz.prog.cellsOf 110 = 2 := by kernel_rfl
  have ei : Tryz.prog.cellsOf 3 = 1 := by kernel_rfl
  have es : Tryz.prog.cellsOf 9 = 1 := by kernel_rfl
  simp [Value.formed, keyV, Tryz.underlying110, e2, Program.keyLits, Tryz.underlying3, Tryz.underlying9, ei, es, Value.cells, hs, hk]
structure FM {α β : Type} (w : World) (t : TypeId) (kv : α → Value) (vo : Option β → Value) (b c : Nat) (f : α → Option β) (D : DataW Value) : Prop where
  own : w.ownsMap Tryz.prog t allR b c D
  at' : ∀ x kl, keyOf Tryz.prog t (kv x) = some kl → has D kl = (f x).isSome ∧ D.atKey kl (.held (vo none)) = .held (vo (f x))
  cov : ∀ kl, has D kl = true → ∃ x, keyOf Tryz.prog t (kv x) = some kl
  ok : ∀ x, f x ≠ none → ∃ kl, keyOf Tryz.prog t (kv x) = some kl
def MapF {α β : Type} (w : World) (t : TypeId) (kv : α → Value) (vo : Option β → Value) (b c : Nat) (f : α → Option β) : Prop := ∃ D, FM w t kv vo b c f D
section
variable {α β : Type} {w : World} {t : TypeId} {kv : α → Value} {vo : Option β → Value} {b c : Nat} {f : α → Option β}
theorem own_same {w w' : World} {k : TypeId} {R : Value → Option (DataW Value × List MemPlace)} {b n : Nat} {D : DataW Value} (h : w.ownsMap Tryz.prog k R b n D) (e : w'.heap[b]? = w.heap[b]?) : w'.ownsMap Tryz.prog k R b n D := by
  obtain ⟨es, clock, hb, r⟩ := h
  exact ⟨es, clock, e.trans hb, r⟩
theorem MapF.same {w' : World} (h : MapF w t kv vo b c f) (e : w'.heap[b]? = w.heap[b]?) : MapF w' t kv vo b c f := by
  obtain ⟨D, h⟩ := h
  exact ⟨D, own_same h.own e, h.at', h.cov, h.ok⟩
theorem MapF.mono {c' : Nat} (h : MapF w t kv vo b c f) (hc : c ≤ c') : MapF w t kv vo b c' f := by
  obtain ⟨D, h⟩ := h
  exact ⟨D, h.own.mono hc, h.at', h.cov, h.ok⟩
theorem MapF.lt (h : MapF w t kv vo b c f) : b < w.heap.size := by
  obtain ⟨D, h⟩ := h; exact h.own.lt
theorem MapF.obj (h : MapF w t kv vo b c f) : ∃ es clock, w.heap[b]? = some (.map es clock) := by
  obtain ⟨D, h⟩ := h
  obtain ⟨es, clock, hb, _⟩ := h.own
  exact ⟨es, clock, hb⟩
theorem MapF.ext {g : α → Option β} (h : MapF w t kv vo b c f) (e : ∀ x, f x = g x) : MapF w t kv vo b c g := by
  obtain rfl : f = g := funext e
  exact h
theorem MapF.look {mt e : TypeId} (h : MapF w t kv vo b c f) (K : Keyed Tryz.prog t) (ht : Tryz.prog.underlying mt = some (.map t e)) (hz : (zeroValue e).run Tryz.prog w = .ok (vo none) w) {x : α} {kl : Lit} (hk : keyOf Tryz.prog t (kv x) = some kl) :
    (Instr.lookup mt (.map (some b)) (kv x) false).run Tryz.prog w = .ok (vo (f x)) w := by
  obtain ⟨D, h⟩ := h
  obtain ⟨v, ps, hrun, hv⟩ := h.own.lookup K ht hz (zd := .held (vo none)) (zp := []) rfl hk
  have := allR_inv hv
  rw [(h.at' x kl hk).2] at this
  injection this with this
  rw [← this] at hrun
  exact hrun
theorem MapF.made (w : World) (t : TypeId) (kv : α → Value) (vo : Option β → Value) : MapF (w.alloc (.map #[] 0)) t kv vo w.heap.size 0 (fun _ => none) :=
  ⟨.map [], World.ownsMap_made w _ _ _, fun x kl _ => ⟨by simp [has], rfl⟩, fun kl h => by simp [has] at h, fun x h => absurd rfl h⟩
open Classical in
noncomputable def updF {α β : Type} (f : α → Option β) (x : α) (v : Option β) (y : α) : Option β := if y = x then v else f y
theorem updF_same (f : α → Option β) (x : α) (v : Option β) : updF f x v x = v := by unfold updF; simp
theorem updF_other (f : α → Option β) {x y : α} (v : Option β) (h : y ≠ x) : updF f x v y = f y := by unfold updF; simp [h]
theorem MapF.store {mt e : TypeId} (h : MapF w t kv vo b c f) (K : Keyed Tryz.prog t) (hi : ∀ x y, kv x = kv y → x = y) (ht : Tryz.prog.underlying mt = some (.map t e)) (hc : c < maxLen) {x : α} {y : β} {kl : Lit} (hk : keyOf Tryz.prog t (kv x) = some kl) :
    ∃ w', (Instr.mapUpdate mt (.map (some b)) (kv x) (vo (some y))).run Tryz.prog w = .ok () w' ∧ MapF w' t kv vo b (c + 1) (updF f x (some y)) ∧ w.grownBy w' (some b) := by
  obtain ⟨D, h⟩ := h
  obtain ⟨w', hrun, ho, hg⟩ := h.own.update K ht hc hk (val := vo (some y)) (d := .held (vo (some y))) (ps := []) rfl
  have hlit := K.key hk
  refine ⟨w', hrun, ⟨_, ho, fun x' kl' hk' => ?_, fun kl' hh => ?_, fun x' hx' => ?_⟩, hg⟩
  · by_cases e1 : x' = x
    · subst e1
      rw [hk] at hk'; injection hk' with hk'; subst hk'
      rw [updF_same, has_put_same h.own.isMap hlit, atKey_put_same h.own.isMap hlit]
      exact ⟨rfl, rfl⟩
    · have e2 : kl' ≠ kl := fun e => e1 (hi _ _ (K.inj (e ▸ hk') hk))
      rw [updF_other _ _ e1, has_put_other e2, atKey_put_other e2]
      exact h.at' x' kl' hk'
  · by_cases e2 : kl' = kl
    · subst e2; exact ⟨x, hk⟩
    · rw [has_put_other e2] at hh; exact h.cov kl' hh
  · by_cases e1 : x' = x
    · subst e1; exact ⟨kl, hk⟩
    · rw [updF_other _ _ e1] at hx'; exact h.ok x' hx'
end
end Go.Proofs.YtakmpmhjcngbbaaGreatDoor
