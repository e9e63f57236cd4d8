import Derived.Test.YtemfhnnkkmiamaaGreatDoorPcf
import Derived.Maps.Own
import Derived.Maps.OwnSet
import Derived.Maps.OwnOps
import Derived.Maps.Views
import Derived.Maps.Range
namespace Go.Proofs.YtemfhnnkkmiamaaGreatDoor
open Go.ChangeShapes Go.WideShapes Go.ChangeAt Go.RowKit Go.Maps
set_option linter.unusedVariables false
set_option linter.unusedSimpArgs false

def allR (v : Value) : Option (DataW Value × List MemPlace) := some (.held v, [])
theorem allR_inv {v : Value} {d : DataW Value} {ps : List MemPlace} (h : allR v = some (d, ps)) : d = .held v := by
  unfold allR at h; simp at h; exact h.1.symm

structure FM {α β : Type} (w : World) (t : TypeId) (kv : α → Value) (vo : Option β → Value) (b c : Nat) (f : α → Option β) (D : DataW Value) : Prop where
  own : w.ownsMap Tryz.prog t allR b c D
  at' : ∀ x kl, keyOf Tryz.prog t (kv x) = some kl → has D kl = (f x).isSome ∧ D.atKey kl (.held (vo none)) = .held (vo (f x))
  cov : ∀ kl, has D kl = true → ∃ x, keyOf Tryz.prog t (kv x) = some kl
  ok : ∀ x, f x ≠ none → ∃ kl, keyOf Tryz.prog t (kv x) = some kl
def MapF {α β : Type} (w : World) (t : TypeId) (kv : α → Value) (vo : Option β → Value) (b c : Nat) (f : α → Option β) : Prop := ∃ D, FM w t kv vo b c f D

section
variable {α β : Type} {w : World} {t : TypeId} {kv : α → Value} {vo : Option β → Value} {b c : Nat} {f : α → Option β}
theorem own_same {w w' : World} {k : TypeId} {R : Value → Option (DataW Value × List MemPlace)} {b n : Nat} {D : DataW Value} (h : w.ownsMap Tryz.prog k R b n D) (e : w'.heap[b]? = w.heap[b]?) : w'.ownsMap Tryz.prog k R b n D := by
  obtain ⟨es, clock, hb, r⟩ := h
  exact ⟨es, clock, e.trans hb, r⟩
theorem MapF.same {w' : World} (h : MapF w t kv vo b c f) (e : w'.heap[b]? = w.heap[b]?) : MapF w' t kv vo b c f := by
  obtain ⟨D, h⟩ := h
  exact ⟨D, own_same h.own e, h.at', h.cov, h.ok⟩
theorem MapF.mono {c' : Nat} (h : MapF w t kv vo b c f) (hc : c ≤ c') : MapF w t kv vo b c' f := by
  obtain ⟨D, h⟩ := h
  exact ⟨D, h.own.mono hc, h.at', h.cov, h.ok⟩
theorem MapF.lt (h : MapF w t kv vo b c f) : b < w.heap.size := by
  obtain ⟨D, h⟩ := h; exact h.own.lt
theorem MapF.obj (h : MapF w t kv vo b c f) : ∃ es clock, w.heap[b]? = some (.map es clock) := by
  obtain ⟨D, h⟩ := h
  obtain ⟨es, clock, hb, _⟩ := h.own
  exact ⟨es, clock, hb⟩
theorem MapF.ext {g : α → Option β} (h : MapF w t kv vo b c f) (e : ∀ x, f x = g x) : MapF w t kv vo b c g := by
  obtain rfl : f = g := funext e
  exact h
set_option maxRecDepth 100000 in
theorem MapF.look {mt e : TypeId} (h : MapF w t kv vo b c f) (K : Keyed Tryz.prog t) (ht : Tryz.prog.underlying mt = some (.map t e)) (hz : (zeroValue e).run Tryz.prog w = .ok (vo none) w) {x : α} {kl : Lit} (hk : keyOf Tryz.prog t (kv x) = some kl) :
    (Instr.lookup mt (.map (some b)) (kv x) false).run Tryz.prog w = .ok (vo (f x)) w := by
  obtain ⟨D, h⟩ := h
  obtain ⟨v, ps, hrun, hv⟩ := h.own.lookup K ht hz (zd := .held (vo none)) (zp := []) rfl hk
  have := allR_inv hv
  rw [(h.at' x kl hk).2] at this
  injection this with this
  rw [← this] at hrun
  exact hrun
set_option maxRecDepth 100000 in
theorem MapF.look_ok {mt e : TypeId} (h : MapF w t kv vo b c f) (K : Keyed Tryz.prog t) (ht : Tryz.prog.underlying mt = some (.map t e)) (hz : (zeroValue e).run Tryz.prog w = .ok (vo none) w) {x : α} {kl : Lit} (hk : keyOf Tryz.prog t (kv x) = some kl) :
    (Instr.lookup mt (.map (some b)) (kv x) true).run Tryz.prog w = .ok (.tuple #[vo (f x), .bool (f x).isSome]) w := by
  obtain ⟨D, h⟩ := h
  obtain ⟨v, ps, hrun, hv⟩ := h.own.look_ok K ht hz (zd := .held (vo none)) (zp := []) rfl hk
  have := allR_inv hv
  rw [(h.at' x kl hk).2] at this
  injection this with this
  rw [← this, (h.at' x kl hk).1] at hrun
  exact hrun
theorem MapF.made (w : World) (t : TypeId) (kv : α → Value) (vo : Option β → Value) : MapF (w.alloc (.map #[] 0)) t kv vo w.heap.size 0 (fun _ => none) :=
  ⟨.map [], World.ownsMap_made w _ _ _, fun x kl _ => ⟨by simp [has], rfl⟩, fun kl h => by simp [has] at h, fun x h => absurd rfl h⟩
open Classical in
noncomputable def updF {α β : Type} (f : α → Option β) (x : α) (v : Option β) (y : α) : Option β := if y = x then v else f y
theorem updF_same (f : α → Option β) (x : α) (v : Option β) : updF f x v x = v := by unfold updF; simp
theorem updF_other (f : α → Option β) {x y : α} (v : Option β) (h : y ≠ x) : updF f x v y = f y := by unfold updF; simp [h]
theorem MapF.store {mt e : TypeId} (h : MapF w t kv vo b c f) (K : Keyed Tryz.prog t) (hi : ∀ x y, kv x = kv y → x = y) (ht : Tryz.prog.underlying mt = some (.map t e)) (hc : c < maxLen) {x : α} {y : β} {kl : Lit} (hk : keyOf Tryz.prog t (kv x) = some kl) :
    ∃ w', (Instr.mapUpdate mt (.map (some b)) (kv x) (vo (some y))).run Tryz.prog w = .ok () w' ∧ MapF w' t kv vo b (c + 1) (updF f x (some y)) ∧ w.grownBy w' (some b) := by
  obtain ⟨D, h⟩ := h
  obtain ⟨w', hrun, ho, hg⟩ := h.own.update K ht hc hk (val := vo (some y)) (d := .held (vo (some y))) (ps := []) rfl
  have hlit := K.key hk
  refine ⟨w', hrun, ⟨_, ho, fun x' kl' hk' => ?_, fun kl' hh => ?_, fun x' hx' => ?_⟩, hg⟩
  · by_cases e1 : x' = x
    · subst e1
      rw [hk] at hk'; injection hk' with hk'; subst hk'
      rw [updF_same, has_put_same h.own.isMap hlit, atKey_put_same h.own.isMap hlit]
      exact ⟨rfl, rfl⟩
    · have e2 : kl' ≠ kl := fun e => e1 (hi _ _ (K.inj (e ▸ hk') hk))
      rw [updF_other _ _ e1, has_put_other e2, atKey_put_other e2]
      exact h.at' x' kl' hk'
  · by_cases e2 : kl' = kl
    · subst e2; exact ⟨x, hk⟩
    · rw [has_put_other e2] at hh; exact h.cov kl' hh
  · by_cases e1 : x' = x
    · subst e1; exact ⟨kl, hk⟩
    · rw [updF_other _ _ e1] at hx'; exact h.ok x' hx'
end
theorem strKeyed : Keyed Tryz.prog 9 := string_keyed Tryz.underlying9
theorem strKey {s : ByteArray} (hs : s.size ≤ maxLen) : ∃ kl, keyOf Tryz.prog 9 (.string s) = some kl := by
  rw [keyOf_string Tryz.underlying9]
  simp [mapKey, Tryz.underlying9, hs]

def Cst (w w' : World) : Prop := ∀ b i v, w.cell? ⟨b, i, none⟩ = some v → w'.cell? ⟨b, i, none⟩ = some v
theorem Cst.refl (w : World) : Cst w w := fun _ _ _ h => h
theorem Cst.trans {a b c : World} (h : Cst a b) (k : Cst b c) : Cst a c := fun x i v e => k x i v (h x i v e)
theorem Cst.below {w w' : World} (h : Below w.heap.size w w') : Cst w w' := fun b i v e => (h.cell (p := ⟨b, i, none⟩) (World.block_lt_of_cell? _ _ e)).trans e
theorem Cst.grown {w w' : World} {m : Nat} {es : Array MapEntry} {k : Nat} (h : w.grownBy w' (some m)) (hm : w.heap[m]? = some (.map es k)) : Cst w w' := fun b i v e => by
  have hb : b ≠ m := fun eb => by subst eb; simp [World.cell?, hm] at e
  have hl : b < w.heap.size := World.block_lt_of_cell? _ _ e
  rw [World.cell?_of_block (w := w) (w' := w') (a := ⟨b, i, none⟩) (h.block b hl (fun x => hb (by injection x with x; try exact x.symm)))]
  exact e

def ISeg (w : World) (a : Option Addr) (l : List Nat) : Prop := ∃ b, a = some ⟨b, 0, none⟩ ∧ ∀ (i x : Nat), l[i]? = some x → w.cell? ⟨b, i, none⟩ = some (.int .i64 (x : Int))

def FSeg (w : World) (a : Option Addr) (fs : List (List Nat)) : Prop := ∃ b, a = some ⟨b, 0, none⟩ ∧ ∀ i l, fs[i]? = some l → ∃ a' c, w.cell? ⟨b, i, none⟩ = some (.slice a' l.length c) ∧ ISeg w a' l ∧ l.length ≤ c ∧ c ≤ 1000
theorem ISeg.st {w w' : World} {a : Option Addr} {l : List Nat} (h : ISeg w a l) (k : Cst w w') : ISeg w' a l := by
  obtain ⟨b, e, h⟩ := h
  exact ⟨b, e, fun i x hx => k _ _ _ (h i x hx)⟩
theorem FSeg.st {w w' : World} {a : Option Addr} {fs : List (List Nat)} (h : FSeg w a fs) (k : Cst w w') : FSeg w' a fs := by
  obtain ⟨b, e, h⟩ := h
  refine ⟨b, e, fun i l hl => ?_⟩
  obtain ⟨a', c, h1, h2, h3⟩ := h i l hl
  exact ⟨a', c, k _ _ _ h1, h2.st k, h3⟩
def cmdV : Option (Value × Value) → Value
  | none => .agg #[.slice none 0 0, .nilFunc]
  | some (a, b) => .agg #[a, b]

def FmAt (w : World) (o : Option (Value × Value)) (fs : List (List Nat)) : Prop := ∃ a c f, cmdV o = .agg #[.slice a fs.length c, f] ∧ (fs = [] ∨ FSeg w a fs)
theorem FmAt.st {w w' : World} {o : Option (Value × Value)} {fs : List (List Nat)} (h : FmAt w o fs) (k : Cst w w') : FmAt w' o fs := by
  obtain ⟨a, c, f, h1, h2⟩ := h
  exact ⟨a, c, f, h1, h2.imp id (fun h => h.st k)⟩

def CB (w : World) (b c : Nat) (f : ByteArray → List (List Nat)) : Prop := ∃ f0, MapF w 9 Value.string cmdV b c f0 ∧ ∀ x, FmAt w (f0 x) (f x)
theorem CB.below {w w' : World} {b c : Nat} {f : ByteArray → List (List Nat)} (h : CB w b c f) (hb : Below w.heap.size w w') : CB w' b c f := by
  obtain ⟨f0, h1, h2⟩ := h
  exact ⟨f0, h1.same (hb.block b h1.lt), fun x => (h2 x).st (Cst.below hb)⟩
theorem CB.made (w : World) : CB (w.alloc (.map #[] 0)) w.heap.size 0 (fun _ => []) := ⟨fun _ => none, MapF.made w _ _ _, fun x => ⟨none, 0, .nilFunc, rfl, .inl rfl⟩⟩
def updC (f : ByteArray → List (List Nat)) (x : List UInt8) (fs : List (List Nat)) (y : ByteArray) : List (List Nat) := if y.toList == x then fs else f y
theorem toList_inj {x y : ByteArray} (h : x.toList = y.toList) : x = y := by
  rw [Lib.toList_data, Lib.toList_data] at h
  cases x; cases y
  simp at h
  rw [h]
theorem CB.put {w : World} {b c : Nat} {f : ByteArray → List (List Nat)} (h : CB w b c f) (hc : c < 1000) (k : ByteArray) (hk : k.size ≤ 100) (a : Option Addr) (cap : Nat) (fv : Value) (fs : List (List Nat)) (hr : FSeg w a fs) :
    ∃ w', (Instr.mapUpdate 41 (.map (some b)) (.string k) (.agg #[.slice a fs.length cap, fv])).run Tryz.prog w = .ok () w' ∧ CB w' b (c + 1) (updC f k.data.toList fs) ∧ w.grownBy w' (some b) ∧ Cst w w' := by
  obtain ⟨f0, h1, h2⟩ := h
  obtain ⟨kl, hkl⟩ := strKey (s := k) (by unfold maxLen; omega)
  obtain ⟨es, ck, ho⟩ := h1.obj
  obtain ⟨w', r1, r2, r3⟩ := h1.store strKeyed (fun x y e => by injection e) Tryz.underlying41 (by unfold maxLen; omega) (y := (.slice a fs.length cap, fv)) hkl
  have st := Cst.grown r3 ho
  refine ⟨w', r1, ⟨_, r2, fun x => ?_⟩, r3, st⟩
  unfold updC
  by_cases e : x = k
  · subst e
    rw [updF_same, if_pos (by rw [Lib.toList_data]; simp)]
    exact ⟨a, cap, fv, rfl, .inr (hr.st st)⟩
  · rw [updF_other _ _ e, if_neg (by intro h; exact e (toList_inj (by rw [Lib.toList_data k]; simpa using h)))]
    exact (h2 x).st st
theorem wpList_cmd {w : World} {b c : Nat} {f : ByteArray → List (List Nat)} (h : CB w b c f) (hc : c < 1000) (k : ByteArray) (hk : k.size ≤ 100) (ad : Option Addr) (cap : Nat) (fv : Value) (fs : List (List Nat)) (hr : FSeg w ad fs) {ops : Array Oper} {rest : List Oper} {o : Oper} {a : Act} {Q : Exit → Act → World → Prop}
    (hg : o.guard = none) (m x v : Operand) (hop : o.op = Op.insert 41 m x v) (hm : a.eval m = .map (some b)) (hx : a.eval x = .string k) (hv : a.eval v = .agg #[.slice ad fs.length cap, fv])
    (hK : ∀ w', CB w' b (c + 1) (updC f k.data.toList fs) → w.grownBy w' (some b) → Cst w w' → wpList Tryz.prog ops Q rest (a.put o.dst undef) w') :
    wpList Tryz.prog ops Q (o :: rest) a w := by
  refine wpList_plain hg fun K' hK' => ?_
  obtain ⟨w', hrun, r1, r2, r3⟩ := h.put hc k hk ad cap fv fs hr
  unfold Oper.wp
  simp [execOp, hop, hm, hx, hv, hrun, Result.andThen]
  exact hK' _ _ (hK w' r1 r2 r3)

theorem CB.look {w : World} {b c : Nat} {f : ByteArray → List (List Nat)} (h : CB w b c f) (hz : (zeroValue 40).run Tryz.prog w = .ok (cmdV none) w) (k : ByteArray) (hk : k.size ≤ 9223372036854775807) :
    ∃ a cap fv, (Instr.lookup 41 (.map (some b)) (.string k) false).run Tryz.prog w = .ok (.agg #[.slice a (f k).length cap, fv]) w ∧ (f k = [] ∨ FSeg w a (f k)) := by
  obtain ⟨f0, h1, h2⟩ := h
  obtain ⟨kl, hkl⟩ := strKey (s := k) (by unfold maxLen; omega)
  have hl := h1.look strKeyed Tryz.underlying41 hz hkl
  obtain ⟨a, cap, fv, e1, e2⟩ := h2 k
  rw [e1] at hl
  exact ⟨a, cap, fv, hl, e2⟩
end Go.Proofs.YtemfhnnkkmiamaaGreatDoor
