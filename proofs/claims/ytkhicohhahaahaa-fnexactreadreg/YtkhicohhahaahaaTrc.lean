import Derived.Test.YtkhicohhahaahaaTrb
namespace Go.Proofs.Ytkhicohhahaahaa
open Go.ChangeShapes Go.WideShapes Go.ChangeAt Go.RowKit Go.Maps
set_option linter.unusedVariables false
set_option linter.unusedSimpArgs false

theorem SSeg.gt {w w1 : World} {B : Nat} {a : Option Addr} {p : List ByteArray} (h : SSeg w a p) (hg : Gt B w w1) : SSeg w1 a p := by
  refine h.imp id ?_
  rintro ⟨b, off, e, hlt, hc⟩
  exact ⟨b, off, e, Nat.lt_of_lt_of_le hlt hg.size, fun i hi => hg.cell (hc i hi)⟩
theorem LSeg.gt {w w1 : World} {B : Nat} {a : Option Addr} {l : List Lf} (h : LSeg w a l) (hg : Gt B w w1) : LSeg w1 a l := by
  refine h.imp id ?_
  rintro ⟨b, off, e, hlt, hc⟩
  refine ⟨b, off, e, Nat.lt_of_lt_of_le hlt hg.size, fun i hi => ?_⟩
  obtain ⟨pa, pc, c0, s, c1, c2, c3, c4⟩ := hc i hi
  exact ⟨pa, pc, hg.cell c0, s.gt hg, hg.cell c1, hg.cell c2, hg.cell c3, hg.cell c4⟩

def onWay (p : List ByteArray) (k : Int) (i : Nat) : Ky := (gS p i, if i + 1 < p.length then 3 else k)
set_option maxRecDepth 100000 in
set_option maxHeartbeats 1000000 in
theorem keyOnWay (p : List ByteArray) (a : Option Addr) (c : Nat) (k : Int) (i : Nat) (w : World) (hp : p.length ≤ 1048576) (hi : i < p.length) (h : SSeg w a p) :
    Calls Try.prog 44 #[.slice a p.length c, .int .i64 i, .int .i64 k] w fun e w' => e = .returned (keyV (onWay p k i)) ∧ Below w.heap.size w w' := by
  rcases h with h | ⟨b, off, rfl, hb, hc⟩
  · omega
  have x0 := hc i hi
  have i0 : (0 : Int) ≤ (i : Int) := Int.natCast_nonneg _
  have i1 : (i : Int) < (p.length : Int) := by omega
  obtain ⟨s, hs⟩ : ∃ s, gS p i = s := ⟨_, rfl⟩
  rw [hs] at x0
  have HK : Hid (onWay p k i = (s, if i + 1 < p.length then 3 else k)) := hid (by unfold onWay; rw [hs])
  obtain ⟨m, hm⟩ : ∃ m : Nat, p.length = m + 1 := ⟨p.length - 1, by omega⟩
  have hwr : IntKind.i64.wrap ((p.length : Int) - 1) = (m : Int) := by rw [IntKind.wrap_i64]; omega
  clear hs hc
  by_cases hl : i + 1 < p.length
  · have d0 : decide (i < m) = true := by simp; omega
    have HK2 := hid (show onWay p k i = (s, 3) by rw [HK.out, if_pos hl])
    clear HK hl hm
    go_enter Try.func44, Try.ntmps44
    go_wp2_with fail
    refine bodyPost_ret (v := .agg #[.string s, .int .i64 3]) (by simp [results, Try.results44, go_sem]) rfl ⟨by rw [HK2.out]; rfl, ?_⟩
    exact (Below.refl _ _).alloc (Nat.le_refl _) _
  · have d0 : decide (i < m) = false := by simp; omega
    have HK2 := hid (show onWay p k i = (s, k) by rw [HK.out, if_neg hl])
    clear HK hl hm
    go_enter Try.func44, Try.ntmps44
    go_wp2_with fail
    refine bodyPost_ret (v := .agg #[.string s, .int .i64 k]) (by simp [results, Try.results44, go_sem]) rfl ⟨by rw [HK2.out]; rfl, ?_⟩
    exact (Below.refl _ _).alloc (Nat.le_refl _) _

set_option maxRecDepth 100000 in
set_option maxHeartbeats 1000000 in
theorem newNode (w : World) :
    Calls Try.prog 41 #[] w fun e w' => ∃ s s', e = .returned (.agg #[.map (some s), .map (some s')]) ∧ s ≠ s' ∧ w.heap.size ≤ s ∧ w.heap.size ≤ s' ∧ MapF w' 91 (α := Ky) keyV nodV s 0 (fun _ => none) ∧ MapF w' 50 (α := Dt) dtV mrkV s' 0 (fun _ => none) ∧ Below w.heap.size w w' := by
  have hmm := @run_makeMap Try.prog
  have H1 := hid ((MapF.made (α := Ky) (w.alloc (.cells #[.map (some (w.heap.size + 1)), .map (some (w.heap.size + 1 + 1))] 59)) 91 keyV nodV).same (w' := (((w.alloc (.cells #[.map (some (w.heap.size + 1)), .map (some (w.heap.size + 1 + 1))] 59)).alloc (.map #[] 0)).alloc (.map #[] 0))) (Below.heap_alloc _ _ _ (by simp)))
  have H2 := hid (MapF.made (α := Dt) ((w.alloc (.cells #[.map (some (w.heap.size + 1)), .map (some (w.heap.size + 1 + 1))] 59)).alloc (.map #[] 0)) 50 dtV mrkV)
  go_enter Try.func41, Try.ntmps41
  go_wp2_with fail
  refine bodyPost_ret (v := .agg #[.map (some (w.heap.size + 1)), .map (some (w.heap.size + 1 + 1))]) (by simp [results, Try.results41, go_sem]) rfl ⟨_, _, rfl, by omega, by omega, by omega, by simpa using H1.out, by simpa using H2.out, ?_⟩
  exact (((Below.refl _ _).alloc (Nat.le_refl _) _).alloc (by simp) _).alloc (by simp; omega) _

structure Bx2 (w : World) (b : Nat) (v0 v1 : Value) : Prop where
  c0 : w.cell? ⟨b, 0, none⟩ = some v0
  c1 : w.cell? ⟨b, 1, none⟩ = some v1
  f : ∀ i, w.frozen? ⟨b, i, none⟩ = false
  lt : b < w.heap.size
theorem Bx2.below {w w' : World} {B b : Nat} {v0 v1 : Value} (h : Bx2 w b v0 v1) (hb : Below B w w') (hB : b < B) : Bx2 w' b v0 v1 :=
  ⟨(hb.cell (p := ⟨b, 0, none⟩) hB).trans h.c0, (hb.cell (p := ⟨b, 1, none⟩) hB).trans h.c1, fun i => (hb.frozen (p := ⟨b, i, none⟩) hB).trans (h.f i), Nat.lt_of_lt_of_le h.lt hb.size⟩
theorem Bx2.gt {w w' : World} {B b : Nat} {v0 v1 : Value} (h : Bx2 w b v0 v1) (hg : Gt B w w') : Bx2 w' b v0 v1 :=
  ⟨hg.cell h.c0, hg.cell h.c1, fun i => (hg.frozen (q := ⟨b, i, none⟩) h.c0 rfl).trans (h.f i), Nat.lt_of_lt_of_le h.lt hg.size⟩
theorem Bx2.setAt {w : World} {b : Nat} {v0 v1 : Value} (h : Bx2 w b v0 v1) (q : Addr) (u : Value) (hq : q.block ≠ b) : Bx2 (w.setCell q u) b v0 v1 :=
  ⟨by rw [World.cell?_setCell_far _ _ _ _ hq]; exact h.c0, by rw [World.cell?_setCell_far _ _ _ _ hq]; exact h.c1, fun i => by rw [World.frozen?_setCell]; exact h.f i, by simp [World.setCell]; exact h.lt⟩
theorem Bx2.set0 {w : World} {b : Nat} {v0 v1 : Value} (h : Bx2 w b v0 v1) (u : Value) : Bx2 (w.setCell ⟨b, 0, none⟩ u) b u v1 :=
  ⟨World.cell?_setCell_same _ _ _ h.c0, by simp [World.cell?_setCell_other, h.c1], fun i => by rw [World.frozen?_setCell]; exact h.f i, by simp [World.setCell]; exact h.lt⟩
theorem Bx2.set1 {w : World} {b : Nat} {v0 v1 : Value} (h : Bx2 w b v0 v1) (u : Value) : Bx2 (w.setCell ⟨b, 1, none⟩ u) b v0 u :=
  ⟨by simp [World.cell?_setCell_other, h.c0], World.cell?_setCell_same _ _ _ h.c1, fun i => by rw [World.frozen?_setCell]; exact h.f i, by simp [World.setCell]; exact h.lt⟩
theorem Bx2.set {w : World} {b : Nat} {v0 v1 : Value} (h : Bx2 w b v0 v1) (u u' : Value) : Bx2 ((w.setCell ⟨b, 0, none⟩ u).setCell ⟨b, 1, none⟩ u') b u u' := (h.set0 u).set1 u'
theorem Bx2.made (w : World) (v0 v1 : Value) (t : TypeId) : Bx2 (w.alloc (.cells #[v0, v1] t)) w.heap.size v0 v1 := ⟨by simp, by simp, fun i => by simp, by simp⟩
theorem Bx2.allocs {w : World} {b : Nat} {v0 v1 : Value} (h : Bx2 w b v0 v1) (o : Obj) : Bx2 (w.alloc o) b v0 v1 := h.below ((Below.refl _ _).alloc (Nat.le_refl _) o) h.lt

structure Bx1 (w : World) (b : Nat) (v0 : Value) : Prop where
  c0 : w.cell? ⟨b, 0, none⟩ = some v0
  f : ∀ i, w.frozen? ⟨b, i, none⟩ = false
  lt : b < w.heap.size
theorem Bx1.below {w w' : World} {B b : Nat} {v0 : Value} (h : Bx1 w b v0) (hb : Below B w w') (hB : b < B) : Bx1 w' b v0 :=
  ⟨(hb.cell (p := ⟨b, 0, none⟩) hB).trans h.c0, fun i => (hb.frozen (p := ⟨b, i, none⟩) hB).trans (h.f i), Nat.lt_of_lt_of_le h.lt hb.size⟩
theorem Bx1.gt {w w' : World} {B b : Nat} {v0 : Value} (h : Bx1 w b v0) (hg : Gt B w w') : Bx1 w' b v0 :=
  ⟨hg.cell h.c0, fun i => (hg.frozen (q := ⟨b, i, none⟩) h.c0 rfl).trans (h.f i), Nat.lt_of_lt_of_le h.lt hg.size⟩
theorem Bx1.setAt {w : World} {b : Nat} {v0 : Value} (h : Bx1 w b v0) (q : Addr) (u : Value) (hq : q.block ≠ b) : Bx1 (w.setCell q u) b v0 :=
  ⟨by rw [World.cell?_setCell_far _ _ _ _ hq]; exact h.c0, fun i => by rw [World.frozen?_setCell]; exact h.f i, by simp [World.setCell]; exact h.lt⟩
theorem Bx1.made (w : World) (v0 : Value) (t : TypeId) : Bx1 (w.alloc (.cells #[v0] t)) w.heap.size v0 := ⟨by simp, fun i => by simp, by simp⟩

theorem Gt.set {B : Nat} {w wr : World} (h : Gt B w wr) (q : Addr) (u : Value) (hq : w.heap.size ≤ q.block) : Gt B w (wr.setCell q u) :=
  ⟨h.os, h.tape, h.output, by simpa [World.setCell] using h.size, fun g hg ho => (Below.heap_setCell _ _ _ _ (by omega)).trans (h.block g hg ho)⟩
theorem Gt.keep {B : Nat} {w wr w1 : World} (h : Gt B w wr) (hb : Below wr.heap.size wr w1) : Gt B w w1 := h.trans (Gt.of_below hb)
theorem Gt.allocs {B : Nat} {w wr : World} (h : Gt B w wr) (o : Obj) : Gt B w (wr.alloc o) := h.keep ((Below.refl _ _).alloc (Nat.le_refl _) _)
theorem wpList_mapUpdate_F {α β : Type} (w : World) {ops : Array Oper} {rest : List Oper} {o : Oper} {a : Act} {Q : Exit → Act → World → Prop}
    (hg : o.guard = none) (m x v : Operand) (mt : TypeId) (hop : o.op = Op.mapUpdate mt m x v) (t e : TypeId) (K : Keyed Try.prog t) (kv : α → Value) (hi : ∀ x y, kv x = kv y → x = y) (ht : Try.prog.underlying mt = some (.map t e)) (vo : Option β → Value) (b c : Nat) (f : α → Option β)
    (hm : a.eval m = .map (some b)) (h : MapF w t kv vo b c f) (hc : c < maxLen) (k : α) (y : β) (kl : Lit) (hx : a.eval x = kv k) (hv : a.eval v = vo (some y)) (hk : keyOf Try.prog t (kv k) = some kl)
    (hK : ∀ w', MapF w' t kv vo b (c + 1) (updF f k (some y)) → w.grownBy w' (some b) → wpList Try.prog ops Q rest (a.put o.dst undef) w') :
    wpList Try.prog ops Q (o :: rest) a w := by
  refine wpList_plain hg fun K' hK' => ?_
  obtain ⟨w', hrun, r1, r2⟩ := h.store K hi ht hc (y := y) hk
  unfold Oper.wp
  simp [execOp, hop, hm, hx, hv, hrun, Result.andThen]
  exact hK' _ _ (hK w' r1 r2)
end Go.Proofs.Ytkhicohhahaahaa
