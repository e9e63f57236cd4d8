import Derived.Test.YtcbcabhjododoaaGreatFg11
import Derived.Maps.Own
import Derived.Maps.OwnSet
import Derived.Maps.OwnOps
import Derived.Maps.Views
import Derived.DeepKeys4
import Derived.Maps.Range
set_option linter.unusedVariables false
set_option linter.unusedSimpArgs false
set_option maxRecDepth 100000
set_option maxHeartbeats 40000000
namespace Go.Proofs.YtcbcabhjododoaaGreat
open Go.ChangeShapes Go.WideShapes Go.ChangeAt Go.RowKit Go.Maps
theorem laidOutS : laidOutB Tryz.prog = true := by kernel_rfl
theorem dotKeyed : Keyed Tryz.prog 55 := Keyed.of_law (deep_law_laid laidOutS (m := 3) (by omega) (of_decide_eq_true (by kernel_rfl)) (by kernel_rfl) (by kernel_rfl))
def dotV (r q : Int) : Value := .agg #[.int .i64 r, .int .i64 q]
theorem dotKT : Tryz.prog.keyType 55 = true := by kernel_rfl
theorem dotKey {r q : Int} (hr : (Lit.int .i64 r).wf = true) (hq : (Lit.int .i64 q).wf = true) : ∃ kl, keyOf Tryz.prog 55 (dotV r q) = some kl := by
 unfold keyOf
 rw [Tryz.underlying55]
 simp only [dotKT, Bool.true_and]
 have h0 : 0 < Tryz.prog.types.size := of_decide_eq_true (by kernel_rfl)
 obtain ⟨m, hm⟩ : ∃ m, Tryz.prog.types.size = m + 1 := ⟨Tryz.prog.types.size - 1, by omega⟩
 rw [hm]
 have e2 : Tryz.prog.cellsOf 55 = 2 := by kernel_rfl
 have ei : Tryz.prog.cellsOf 3 = 1 := by kernel_rfl
 simp [Value.formed, dotV, Tryz.underlying55, e2, Program.keyLits, Tryz.underlying3, ei, Value.cells, hr, hq]
theorem dotKey_inj {r q r' q' : Int} {kl : Lit} (h : keyOf Tryz.prog 55 (dotV r q) = some kl) (h' : keyOf Tryz.prog 55 (dotV r' q') = some kl) : r = r' ∧ q = q' := by
 have e := dotKeyed.inj h h'
 simpa [dotV] using e
structure DotM (w : World) (bm k : Nat) (l : List Lf) (D : DataW Value) : Prop where
 own : w.ownsMap Tryz.prog 55 (plainElem Tryz.prog 3) bm k D
 tidy : Tidy D
 has' : ∀ r q kl, keyOf Tryz.prog 55 (dotV r q) = some kl → (has D kl = true ↔ ∃ j, j < k ∧ (gL l j).r = r ∧ (gL l j).q = q)
 le : size D ≤ k
 eq : size D = k ↔ ∀ i, i < k → ∀ j, j < i → ¬ ((gL l j).r = (gL l i).r ∧ (gL l j).q = (gL l i).q)
theorem DotM.step {w w' : World} {bm k : Nat} {l : List Lf} {D : DataW Value} {kl : Lit} {d : DataW Value} (h : DotM w bm k l D) (hk : keyOf Tryz.prog 55 (dotV (gL l k).r (gL l k).q) = some kl)
  (ho : w'.ownsMap Tryz.prog 55 (plainElem Tryz.prog 3) bm (k + 1) (D.put kl d)) : DotM w' bm (k + 1) l (D.put kl d) := by
 have hlit := dotKeyed.key hk
 have hsz := size_put (k := kl) h.tidy d
 have hh := h.has' _ _ _ hk
 refine ⟨ho, h.tidy.put hlit d, fun r q kl' hk' => ?_, ?_, ?_⟩
 ·by_cases e : kl' = kl
  ·subst e
   obtain ⟨e1, e2⟩ := dotKey_inj hk hk'
   rw [has_put_same h.tidy.isMap hlit]
   exact ⟨fun _ => ⟨k, by omega, e1, e2⟩, fun _ => rfl⟩
  ·rw [has_put_other e, h.has' r q kl' hk']
   constructor
   ·rintro ⟨j, hj, r1⟩; exact ⟨j, by omega, r1⟩
   ·rintro ⟨j, hj, r1, r2⟩
    by_cases ej : j = k
    ·subst ej; rw [r1, r2, hk'] at hk; injection hk with hk; exact absurd hk e
    ·exact ⟨j, by omega, r1, r2⟩
 ·rw [hsz]; have := h.le; split <;> omega
 ·rw [hsz]
  have hle := h.le
  by_cases hb : has D kl = true
  ·rw [if_pos hb]
   obtain ⟨j, hj, r1, r2⟩ := hh.1 hb
   constructor
   ·intro e; omega
   ·intro e; exact absurd ⟨r1, r2⟩ (e k (by omega) j hj)
  ·rw [if_neg hb]
   have hn := fun j hj r1 r2 => hb (hh.2 ⟨j, hj, r1, r2⟩)
   constructor
   ·intro e i hi j hj
    by_cases ei : i = k
    ·subst ei; exact fun q => hn j hj q.1 q.2
    ·exact h.eq.1 (by omega) i (by omega) j hj
   ·intro e
    have := h.eq.2 (fun i hi j hj => e i (by omega) j hj)
    omega
theorem DotM.made (w : World) (l : List Lf) : DotM (w.alloc (.map #[] 0)) w.heap.size 0 l (.map []) :=
 ⟨World.ownsMap_made w _ _ _, tidy_empty, fun r q kl hk => ⟨fun h => by simp [has] at h, fun ⟨j, hj, _⟩ => by omega⟩, by simp [size], ⟨fun _ i hi => by omega, fun _ => rfl⟩⟩
def allR (v : Value) : Option (DataW Value × List MemPlace) := some (.held v, [])
theorem allR_inv {v : Value} {d : DataW Value} {ps : List MemPlace} (h : allR v = some (d, ps)) : d = .held v := by
 unfold allR at h; simp at h; exact h.1.symm
abbrev Ky := ByteArray × Int
abbrev Dt := Int × Int
def keyV (x : Ky) : Value := .agg #[.string x.1, .int .i64 x.2]
def dtV (d : Dt) : Value := dotV d.1 d.2
def mrkV : Option ByteArray → Value
 | none => .agg #[.string ByteArray.empty]
 | some s => .agg #[.string s]
def nodV : Option (Nat × Nat) → Value
 | none => .agg #[.map none, .map none]
 | some x => .agg #[.map (some x.1), .map (some x.2)]
theorem keyV_inj {x y : Ky} (h : keyV x = keyV y) : x = y := by
 obtain ⟨a, b⟩ := x; obtain ⟨c, d⟩ := y
 simpa [keyV] using h
theorem dtV_inj {x y : Dt} (h : dtV x = dtV y) : x = y := by
 obtain ⟨a, b⟩ := x; obtain ⟨c, d⟩ := y
 simpa [dtV, dotV] using h
theorem keyKeyed : Keyed Tryz.prog 140 := Keyed.of_law (deep_law_laid laidOutS (m := 3) (by omega) (of_decide_eq_true (by kernel_rfl)) (by kernel_rfl) (by kernel_rfl))
theorem keyKT : Tryz.prog.keyType 140 = true := by kernel_rfl
theorem keyKey {s : ByteArray} {k : Int} (hs : s.size ≤ maxLen) (hk : (Lit.int .i64 k).wf = true) : ∃ kl, keyOf Tryz.prog 140 (keyV (s, k)) = some kl := by
 unfold keyOf
 rw [Tryz.underlying140]
 simp only [keyKT, Bool.true_and]
 have h0 : 0 < Tryz.prog.types.size := of_decide_eq_true (by kernel_rfl)
 obtain ⟨m, hm⟩ : ∃ m, Tryz.prog.types.size = m + 1 := ⟨Tryz.prog.types.size - 1, by omega⟩
 rw [hm]
 have e2 : Tryz.prog.cellsOf 140 = 2 := by kernel_rfl
 have ei : Tryz.prog.cellsOf 3 = 1 := by kernel_rfl
 have es : Tryz.prog.cellsOf 9 = 1 := by kernel_rfl
 simp [Value.formed, keyV, Tryz.underlying140, e2, Program.keyLits, Tryz.underlying3, Tryz.underlying9, ei, es, Value.cells, hs, hk]
structure FM {α β : Type} (w : World) (t : TypeId) (kv : α → Value) (vo : Option β → Value) (b c : Nat) (f : α → Option β) (D : DataW Value) : Prop where
 own : w.ownsMap Tryz.prog t allR b c D
 at' : ∀ x kl, keyOf Tryz.prog t (kv x) = some kl → has D kl = (f x).isSome ∧ D.atKey kl (.held (vo none)) = .held (vo (f x))
 cov : ∀ kl, has D kl = true → ∃ x, keyOf Tryz.prog t (kv x) = some kl
 ok : ∀ x, f x ≠ none → ∃ kl, keyOf Tryz.prog t (kv x) = some kl
def MapF {α β : Type} (w : World) (t : TypeId) (kv : α → Value) (vo : Option β → Value) (b c : Nat) (f : α → Option β) : Prop := ∃ D, FM w t kv vo b c f D
section
variable {α β : Type} {w : World} {t : TypeId} {kv : α → Value} {vo : Option β → Value} {b c : Nat} {f : α → Option β}
theorem own_same {w w' : World} {k : TypeId} {R : Value → Option (DataW Value × List MemPlace)} {b n : Nat} {D : DataW Value} (h : w.ownsMap Tryz.prog k R b n D) (e : w'.heap[b]? = w.heap[b]?) : w'.ownsMap Tryz.prog k R b n D := by
 obtain ⟨es, clock, hb, r⟩ := h
 exact ⟨es, clock, e.trans hb, r⟩
theorem MapF.same {w' : World} (h : MapF w t kv vo b c f) (e : w'.heap[b]? = w.heap[b]?) : MapF w' t kv vo b c f := by
 obtain ⟨D, h⟩ := h
 exact ⟨D, own_same h.own e, h.at', h.cov, h.ok⟩
theorem MapF.mono {c' : Nat} (h : MapF w t kv vo b c f) (hc : c ≤ c') : MapF w t kv vo b c' f := by
 obtain ⟨D, h⟩ := h
 exact ⟨D, h.own.mono hc, h.at', h.cov, h.ok⟩
theorem MapF.lt (h : MapF w t kv vo b c f) : b < w.heap.size := by
 obtain ⟨D, h⟩ := h; exact h.own.lt
theorem MapF.obj (h : MapF w t kv vo b c f) : ∃ es clock, w.heap[b]? = some (.map es clock) := by
 obtain ⟨D, h⟩ := h
 obtain ⟨es, clock, hb, _⟩ := h.own
 exact ⟨es, clock, hb⟩
theorem MapF.ext {g : α → Option β} (h : MapF w t kv vo b c f) (e : ∀ x, f x = g x) : MapF w t kv vo b c g := by
 obtain rfl : f = g := funext e
 exact h
theorem MapF.look {mt e : TypeId} (h : MapF w t kv vo b c f) (K : Keyed Tryz.prog t) (ht : Tryz.prog.underlying mt = some (.map t e)) (hz : (zeroValue e).run Tryz.prog w = .ok (vo none) w) {x : α} {kl : Lit} (hk : keyOf Tryz.prog t (kv x) = some kl) :
  (Instr.lookup mt (.map (some b)) (kv x) false).run Tryz.prog w = .ok (vo (f x)) w := by
 obtain ⟨D, h⟩ := h
 obtain ⟨v, ps, hrun, hv⟩ := h.own.lookup K ht hz (zd := .held (vo none)) (zp := []) rfl hk
 have := allR_inv hv
 rw [(h.at' x kl hk).2] at this
 injection this with this
 rw [← this] at hrun
 exact hrun
theorem MapF.look_ok {mt e : TypeId} (h : MapF w t kv vo b c f) (K : Keyed Tryz.prog t) (ht : Tryz.prog.underlying mt = some (.map t e)) (hz : (zeroValue e).run Tryz.prog w = .ok (vo none) w) {x : α} {kl : Lit} (hk : keyOf Tryz.prog t (kv x) = some kl) :
  (Instr.lookup mt (.map (some b)) (kv x) true).run Tryz.prog w = .ok (.tuple #[vo (f x), .bool (f x).isSome]) w := by
 obtain ⟨D, h⟩ := h
 obtain ⟨v, ps, hrun, hv⟩ := h.own.look_ok K ht hz (zd := .held (vo none)) (zp := []) rfl hk
 have := allR_inv hv
 rw [(h.at' x kl hk).2] at this
 injection this with this
 rw [← this, (h.at' x kl hk).1] at hrun
 exact hrun
theorem MapF.made (w : World) (t : TypeId) (kv : α → Value) (vo : Option β → Value) : MapF (w.alloc (.map #[] 0)) t kv vo w.heap.size 0 (fun _ => none) :=
 ⟨.map [], World.ownsMap_made w _ _ _, fun x kl _ => ⟨by simp [has], rfl⟩, fun kl h => by simp [has] at h, fun x h => absurd rfl h⟩
open Classical in
noncomputable def updF {α β : Type} (f : α → Option β) (x : α) (v : Option β) (y : α) : Option β := if y = x then v else f y
theorem updF_same (f : α → Option β) (x : α) (v : Option β) : updF f x v x = v := by unfold updF; simp
theorem updF_other (f : α → Option β) {x y : α} (v : Option β) (h : y ≠ x) : updF f x v y = f y := by unfold updF; simp [h]
theorem MapF.store {mt e : TypeId} (h : MapF w t kv vo b c f) (K : Keyed Tryz.prog t) (hi : ∀ x y, kv x = kv y → x = y) (ht : Tryz.prog.underlying mt = some (.map t e)) (hc : c < maxLen) {x : α} {y : β} {kl : Lit} (hk : keyOf Tryz.prog t (kv x) = some kl) :
  ∃ w', (Instr.mapUpdate mt (.map (some b)) (kv x) (vo (some y))).run Tryz.prog w = .ok () w' ∧ MapF w' t kv vo b (c + 1) (updF f x (some y)) ∧ w.grownBy w' (some b) := by
 obtain ⟨D, h⟩ := h
 obtain ⟨w', hrun, ho, hg⟩ := h.own.update K ht hc hk (val := vo (some y)) (d := .held (vo (some y))) (ps := []) rfl
 have hlit := K.key hk
 refine ⟨w', hrun, ⟨_, ho, fun x' kl' hk' => ?_, fun kl' hh => ?_, fun x' hx' => ?_⟩, hg⟩
 ·by_cases e1 : x' = x
  ·subst e1
   rw [hk] at hk'; injection hk' with hk'; subst hk'
   rw [updF_same, has_put_same h.own.isMap hlit, atKey_put_same h.own.isMap hlit]
   exact ⟨rfl, rfl⟩
  ·have e2 : kl' ≠ kl := fun e => e1 (hi _ _ (K.inj (e ▸ hk') hk))
   rw [updF_other _ _ e1, has_put_other e2, atKey_put_other e2]
   exact h.at' x' kl' hk'
 ·by_cases e2 : kl' = kl
  ·subst e2; exact ⟨x, hk⟩
  ·rw [has_put_other e2] at hh; exact h.cov kl' hh
 ·by_cases e1 : x' = x
  ·subst e1; exact ⟨kl, hk⟩
  ·rw [updF_other _ _ e1] at hx'; exact h.ok x' hx'
theorem MapF.len {mt e : TypeId} (h : MapF w t kv vo b c f) (K : Keyed Tryz.prog t) (ht : Tryz.prog.underlying mt = some (.map t e)) : ∃ n : Nat, (∀ ty, (Builtin.len_ #[mt] ty #[.map (some b)]).run Tryz.prog w = .ok (.int .i64 n) w) ∧ n ≤ c ∧ (0 < n ↔ ∃ x, f x ≠ none) := by
 obtain ⟨D, h⟩ := h
 refine ⟨Maps.size D, fun ty => h.own.len ht ty, h.own.size_le, ?_⟩
 obtain ⟨es, rfl⟩ := h.own.isMap
 constructor
 ·intro h0
  have hk : ∃ kl, has (DataW.map es) kl = true := by
   cases es with
   | nil => simp [Maps.size] at h0
   | cons p r =>
    obtain ⟨es', hD, _, hkl⟩ := h.own.entries K
    have hp : WideAt.IsKeyLit p.1 := hkl p (by injection hD with hD; rw [← hD]; simp)
    refine ⟨p.1, ?_⟩
    rw [has_eq]
    simp only [List.any_cons, Bool.or_eq_true]
    exact .inl (WideAt.sameKey_self hp)
  obtain ⟨kl, hkl⟩ := hk
  obtain ⟨x, hx⟩ := h.cov kl hkl
  refine ⟨x, fun e => ?_⟩
  have := (h.at' x kl hx).1
  rw [hkl, e] at this
  cases this
 ·rintro ⟨x, hx⟩
  obtain ⟨kl, hkl⟩ := h.ok x hx
  have := (h.at' x kl hkl).1
  cases es with
  | nil => cases e : f x with
   | none => exact absurd e hx
   | some y => rw [e] at this; simp [has] at this
  | cons p r => simp [Maps.size]
end
def wayOf (p : List ByteArray) (k : Int) : List Ky := (List.range p.length).map fun i => (gS p i, if i + 1 < p.length then 3 else k)
theorem wayOf_len (p : List ByteArray) (k : Int) : (wayOf p k).length = p.length := by simp [wayOf]
theorem wayOf_get {p : List ByteArray} {k : Int} {i : Nat} (h : i < p.length) : (wayOf p k)[i]? = some (gS p i, if i + 1 < p.length then 3 else k) := by simp [wayOf, h]
theorem wayOf_take {p : List ByteArray} {k : Int} {i : Nat} (h : i < p.length) : (wayOf p k).take (i + 1) = (wayOf p k).take i ++ [(gS p i, if i + 1 < p.length then 3 else k)] := by
 have h' : i < (wayOf p k).length := by rw [wayOf_len]; exact h
 rw [List.take_add_one, wayOf_get h]; rfl
theorem gS_ext {p q : List ByteArray} (hl : p.length = q.length) (h : ∀ i, i < p.length → gS p i = gS q i) : p = q := by
 refine List.ext_getElem hl fun i h1 h2 => ?_
 have := h i h1
 simpa [gS, List.getD, h1, h2] using this
theorem wayOf_inj {p q : List ByteArray} {k j : Int} (h : wayOf p k = wayOf q j) (h0 : 0 < p.length) : p = q ∧ k = j := by
 have hl : p.length = q.length := by have := congrArg List.length h; simpa [wayOf_len] using this
 have each : ∀ i, i < p.length → (gS p i, if i + 1 < p.length then 3 else k) = (gS q i, if i + 1 < q.length then (3 : Int) else j) := fun i hi => by
  have := wayOf_get (k := k) hi
  rw [h, wayOf_get (by omega)] at this
  injection this with this
  exact this.symm
 refine ⟨gS_ext hl fun i hi => (Prod.mk.inj (each i hi)).1, ?_⟩
 have := (Prod.mk.inj (each (p.length - 1) (by omega))).2
 rw [if_neg (by omega), if_neg (by omega)] at this
 exact this
theorem take_pre {α : Type} {l : List α} {k : Nat} {x : α} {q : List α} (h : l.take (k + 1) = l.take k ++ [x]) : q <+: l.take (k + 1) ↔ q <+: l.take k ∨ q = l.take k ++ [x] := by
 rw [h]
 constructor
 ·intro hq
  rcases List.prefix_concat_iff.1 hq with e | e
  ·exact .inr e
  ·exact .inl e
 ·rintro (e | e)
  ·exact e.trans (List.prefix_append _ _)
  ·rw [e]; exact List.prefix_refl _
structure Tre (w : World) (B : Nat) (N : List Ky → Option (Nat × Nat)) (M : List Ky → Dt → Option ByteArray) (c : Nat) : Prop where
 kids : ∀ p x, N p = some x → MapF w 140 keyV nodV x.1 c (fun y => N (p ++ [y]))
 marks : ∀ p x, N p = some x → MapF w 55 dtV mrkV x.2 c (M p)
 apart : ∀ p q x y, N p = some x → N q = some y → x.1 ≠ y.2 ∧ (x.1 = y.1 → p = q) ∧ (x.2 = y.2 → p = q)
 lo : ∀ p x, N p = some x → B ≤ x.1 ∧ B ≤ x.2
 none' : ∀ p, N p = none → M p = fun _ => none
 up : ∀ p y, N p = none → N (p ++ [y]) = none
section
variable {w w' : World} {B c : Nat} {N : List Ky → Option (Nat × Nat)} {M : List Ky → Dt → Option ByteArray}
theorem Tre.same (h : Tre w B N M c) (hs : ∀ p x, N p = some x → w'.heap[x.1]? = w.heap[x.1]? ∧ w'.heap[x.2]? = w.heap[x.2]?) : Tre w' B N M c :=
 ⟨fun p x hx => (h.kids p x hx).same (hs p x hx).1, fun p x hx => (h.marks p x hx).same (hs p x hx).2, h.apart, h.lo, h.none', h.up⟩
theorem Tre.lt (h : Tre w B N M c) {p : List Ky} {x : Nat × Nat} (hx : N p = some x) : x.1 < w.heap.size ∧ x.2 < w.heap.size := ⟨(h.kids p x hx).lt, (h.marks p x hx).lt⟩
theorem Tre.below (h : Tre w B N M c) (hb : Below w.heap.size w w') : Tre w' B N M c := h.same fun p x hx => ⟨hb.block _ (h.lt hx).1, hb.block _ (h.lt hx).2⟩
theorem Tre.mono {c' : Nat} (h : Tre w B N M c) (hc : c ≤ c') : Tre w B N M c' := ⟨fun p x hx => (h.kids p x hx).mono hc, fun p x hx => (h.marks p x hx).mono hc, h.apart, h.lo, h.none', h.up⟩
theorem cell_obj {w : World} {q : Addr} {v : Value} (h : w.cell? q = some v) : ∀ es clock, w.heap[q.block]? ≠ some (.map es clock) := by
 intro es clock e
 simp [World.cell?, e] at h
theorem Tre.set (h : Tre w B N M c) {q : Addr} {v : Value} (u : Value) (hc : w.cell? q = some v) : Tre (w.setCell q u) B N M c := by
 refine h.same fun p x hx => ⟨Below.heap_setCell _ _ _ _ fun e => ?_, Below.heap_setCell _ _ _ _ fun e => ?_⟩
 ·obtain ⟨es, cl, ho⟩ := (h.kids p x hx).obj
  rw [e] at ho; exact cell_obj hc _ _ ho
 ·obtain ⟨es, cl, ho⟩ := (h.marks p x hx).obj
  rw [e] at ho; exact cell_obj hc _ _ ho
structure Gt (B : Nat) (w w' : World) : Prop where
 os : w'.os = w.os
 tape : w'.tape = w.tape
 output : w'.output = w.output
 size : w.heap.size ≤ w'.heap.size
 block : ∀ g, g < w.heap.size → (g < B ∨ ∀ es cl, w.heap[g]? ≠ some (.map es cl)) → w'.heap[g]? = w.heap[g]?
theorem Gt.refl (B : Nat) (w : World) : Gt B w w := ⟨rfl, rfl, rfl, Nat.le_refl _, fun _ _ _ => rfl⟩
theorem Gt.trans {a b d : World} (h : Gt B a b) (k : Gt B b d) : Gt B a d :=
 ⟨k.os.trans h.os, k.tape.trans h.tape, k.output.trans h.output, Nat.le_trans h.size k.size, fun g hg ho => by
  have e := h.block g hg ho
  exact (k.block g (Nat.lt_of_lt_of_le hg h.size) (ho.imp id fun hn es cl => by rw [e]; exact hn es cl)).trans e⟩
theorem Gt.of_below (h : Below w.heap.size w w') : Gt B w w' := ⟨h.os, h.tape, h.output, h.size, fun g hg _ => h.block g hg⟩
theorem Gt.below (h : Gt B w w') (hB : B ≤ w.heap.size) : Below B w w' := ⟨h.os, h.tape, h.output, h.size, fun g hg => h.block g (by omega) (.inl hg)⟩
theorem Gt.cell (h : Gt B w w') {q : Addr} {v : Value} (hc : w.cell? q = some v) : w'.cell? q = some v :=
 (World.cell?_of_block (h.block q.block (block_lt_of_cell hc) (.inr (cell_obj hc)))).trans hc
theorem Gt.frozen (h : Gt B w w') {q r : Addr} {v : Value} (hc : w.cell? r = some v) (hr : r.block = q.block) : w'.frozen? q = w.frozen? q :=
 World.frozen?_of_block (by rw [← hr]; exact h.block r.block (block_lt_of_cell hc) (.inr (cell_obj hc)))
theorem Gt.grown {b : Nat} (hg : w.grownBy w' (some b)) (hB : B ≤ b) (ho : ∃ es cl, w.heap[b]? = some (.map es cl)) : Gt B w w' :=
 ⟨hg.os, hg.tape, hg.output, hg.size, fun g h1 h2 => hg.block g h1 fun e => by
  injection e with e
  subst e
  obtain ⟨es, cl, ho⟩ := ho
  rcases h2 with h2 | h2
  ·omega
  ·exact h2 _ _ ho⟩
theorem Tre.add {p : List Ky} {y : Ky} {x : Nat × Nat} {s s' : Nat} (h : Tre w B N M c) (hN : N p = some x) (hn : N (p ++ [y]) = none) (hk : MapF w 140 (α := Ky) keyV nodV s 0 (fun _ => none)) (hm : MapF w 55 (α := Dt) dtV mrkV s' 0 (fun _ => none)) (hss : s ≠ s')
  (hs : ∀ p x, N p = some x → x.1 < s ∧ x.2 < s ∧ x.1 < s' ∧ x.2 < s') (hB : B ≤ s ∧ B ≤ s')
  (hu : MapF w' 140 keyV nodV x.1 (c + 1) (updF (fun z => N (p ++ [z])) y (some (s, s')))) (hg : w.grownBy w' (some x.1)) : Tre w' B (updF N (p ++ [y]) (some (s, s'))) M (c + 1) := by
 have hne : ∀ q z, q ≠ p → q ++ [z] ≠ p ++ [y] := fun q z hq e => hq (List.append_inj' e rfl).1
 have blk : ∀ g, g < w.heap.size → g ≠ x.1 → w'.heap[g]? = w.heap[g]? := fun g h1 h2 => hg.block g h1 (fun e => h2 (by injection e))
 have hsx := hs p x hN
 refine ⟨fun q z hz => ?_, fun q z hz => ?_, fun q r u v hu' hv => ?_, fun q z hz => ?_, fun q hq => ?_, fun q z hq => ?_⟩
 ·by_cases e : q = p ++ [y]
  ·subst e
   rw [updF_same] at hz
   injection hz with hz
   subst hz
   refine ((hk.same (blk _ hk.lt (by simp; omega))).mono (Nat.zero_le _)).ext fun z => ?_
   rw [updF_other _ _ (by intro e; have := congrArg List.length e; simp at this)]
   exact (h.up _ z hn).symm
  ·rw [updF_other _ _ e] at hz
   by_cases e2 : q = p
   ·subst e2
    rw [hN] at hz
    injection hz with hz
    subst hz
    refine hu.ext fun z => ?_
    by_cases e3 : z = y
    ·subst e3; rw [updF_same, updF_same]
    ·rw [updF_other _ _ e3, updF_other _ _ (fun e => e3 (by simpa using e))]
   ·have hk' := h.kids q z hz
    refine ((hk'.same (blk _ hk'.lt fun e3 => e2 ((h.apart q p z x hz hN).2.1 e3))).mono (Nat.le_succ _)).ext fun z => ?_
    rw [updF_other _ _ (hne q z e2)]
 ·by_cases e : q = p ++ [y]
  ·subst e
   rw [updF_same] at hz
   injection hz with hz
   subst hz
   refine ((hm.same (blk _ hm.lt (by simp; omega))).mono (Nat.zero_le _)).ext fun z => ?_
   rw [h.none' _ hn]
  ·rw [updF_other _ _ e] at hz
   have hm' := h.marks q z hz
   exact (hm'.same (blk _ hm'.lt fun e3 => (h.apart p q x z hN hz).1 e3.symm)).mono (Nat.le_succ _)
 ·by_cases e : q = p ++ [y]
  ·by_cases e' : r = p ++ [y]
   ·subst e; subst e'
    rw [updF_same] at hu' hv
    injection hu' with hu'; injection hv with hv
    subst hu'; subst hv
    exact ⟨hss, fun _ => rfl, fun _ => rfl⟩
   ·subst e
    rw [updF_same] at hu'
    rw [updF_other _ _ e'] at hv
    injection hu' with hu'
    subst hu'
    have := hs r v hv
    exact ⟨by simp; omega, fun e => by simp at e; omega, fun e => by simp at e; omega⟩
  ·rw [updF_other _ _ e] at hu'
   by_cases e' : r = p ++ [y]
   ·subst e'
    rw [updF_same] at hv
    injection hv with hv
    subst hv
    have := hs q u hu'
    exact ⟨by simp; omega, fun e => by simp at e; omega, fun e => by simp at e; omega⟩
   ·rw [updF_other _ _ e'] at hv
    exact h.apart q r u v hu' hv
 ·by_cases e : q = p ++ [y]
  ·subst e
   rw [updF_same] at hz
   injection hz with hz
   subst hz
   exact hB
  ·rw [updF_other _ _ e] at hz
   exact h.lo q z hz
 ·by_cases e : q = p ++ [y]
  ·subst e; rw [updF_same] at hq; cases hq
  ·rw [updF_other _ _ e] at hq; exact h.none' q hq
 ·by_cases e : q = p ++ [y]
  ·subst e; rw [updF_same] at hq; cases hq
  ·rw [updF_other _ _ e] at hq
   have e2 : q ≠ p := fun e2 => by subst e2; rw [hN] at hq; cases hq
   rw [updF_other _ _ (hne q z e2)]
   exact h.up q z hq
noncomputable def updM (M : List Ky → Dt → Option ByteArray) (p : List Ky) (d : Dt) (s : ByteArray) (q : List Ky) : Dt → Option ByteArray := if yes (q = p) = true then updF (M p) d (some s) else M q
theorem updM_same (M : List Ky → Dt → Option ByteArray) (p : List Ky) (d : Dt) (s : ByteArray) : updM M p d s p = updF (M p) d (some s) := by unfold updM; rw [if_pos (yes_t rfl)]
theorem updM_other (M : List Ky → Dt → Option ByteArray) {p q : List Ky} (d : Dt) (s : ByteArray) (h : q ≠ p) : updM M p d s q = M q := by unfold updM; rw [if_neg (by rw [yes_f h]; simp)]
theorem Tre.mark {p : List Ky} {x : Nat × Nat} {d : Dt} {s : ByteArray} (h : Tre w B N M c) (hN : N p = some x)
  (hu : MapF w' 55 dtV mrkV x.2 (c + 1) (updF (M p) d (some s))) (hg : w.grownBy w' (some x.2)) : Tre w' B N (updM M p d s) (c + 1) := by
 have blk : ∀ g, g < w.heap.size → g ≠ x.2 → w'.heap[g]? = w.heap[g]? := fun g h1 h2 => hg.block g h1 (fun e => h2 (by injection e))
 refine ⟨fun q z hz => ?_, fun q z hz => ?_, h.apart, h.lo, fun q hq => ?_, h.up⟩
 ·exact ((h.kids q z hz).same (blk _ (h.lt hz).1 (h.apart q p z x hz hN).1)).mono (Nat.le_succ _)
 ·by_cases e : q = p
  ·subst e
   rw [hN] at hz; injection hz with hz; subst hz
   rw [updM_same]; exact hu
  ·rw [updM_other _ _ _ e]
   exact ((h.marks q z hz).same (blk _ (h.lt hz).2 fun e2 => e ((h.apart q p z x hz hN).2.2 e2))).mono (Nat.le_succ _)
 ·have e : q ≠ p := fun e => by subst e; rw [hN] at hq; cases hq
  rw [updM_other _ _ _ e]; exact h.none' q hq
end
end Go.Proofs.YtcbcabhjododoaaGreat
