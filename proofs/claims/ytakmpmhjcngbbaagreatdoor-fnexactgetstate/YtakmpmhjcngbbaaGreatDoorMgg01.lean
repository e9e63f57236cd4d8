import Derived.Test.YtakmpmhjcngbbaaGreatDoorRows
import Derived.WalkKit
import Derived.ProofKit
import Derived.OpenShut
import Derived.ShutString
import Derived.ChangeOld
import Derived.Below
import Derived.WalkLawsBesides
import Derived.WalkSpells
import Derived.Outline
import Derived.Deep.RegionHeld3
set_option linter.unusedVariables false
set_option linter.unusedSimpArgs false
set_option maxRecDepth 100000
set_option maxHeartbeats 40000000
namespace Go.Proofs.YtakmpmhjcngbbaaGreatDoor
open Go.ChangeShapes Go.WideShapes Go.ChangeAt Go.RowKit
theorem hid {p : Prop} (h : p) : Hid p := h
def RSeg (w : World) (a : Option Addr) (n : Nat) (R F T : Nat → Int) : Prop :=
  n = 0 ∨ ∃ b off, a = some ⟨b, off, none⟩ ∧ b < w.heap.size ∧ ∀ i, i < n → w.cell? ⟨b, off + i * 3, none⟩ = some (.int .i64 (R i)) ∧ w.cell? ⟨b, off + i * 3 + 1, none⟩ = some (.int .i64 (F i)) ∧ w.cell? ⟨b, off + i * 3 + 2, none⟩ = some (.int .i64 (T i))
theorem RSeg.kept {w w1 : World} {B : Nat} {a : Option Addr} {n : Nat} {R F T : Nat → Int} (h : RSeg w a n R F T) (hb : Below B w w1) (hc : ∀ x, a = some x → x.block < B) : RSeg w1 a n R F T := by
  rcases h with h | ⟨b, off, rfl, hlt, hcell⟩
  · exact .inl h
  · have hB : b < B := hc ⟨b, off, none⟩ rfl
    refine .inr ⟨b, off, rfl, Nat.lt_of_lt_of_le hlt hb.size, fun i hi => ?_⟩
    obtain ⟨h1, h2, h3⟩ := hcell i hi
    exact ⟨(hb.cell (p := ⟨b, _, none⟩) hB).trans h1, (hb.cell (p := ⟨b, _, none⟩) hB).trans h2, (hb.cell (p := ⟨b, _, none⟩) hB).trans h3⟩
theorem RSeg.below {w w1 : World} {a : Option Addr} {n : Nat} {R F T : Nat → Int} (h : RSeg w a n R F T) (hb : Below w.heap.size w w1) : RSeg w1 a n R F T := by
  rcases h with h | ⟨b, off, rfl, hlt, hcell⟩
  · exact .inl h
  · exact RSeg.kept (.inr ⟨b, off, rfl, hlt, hcell⟩) hb (fun x hx => by simp at hx; subst hx; exact hlt)
theorem RSeg.same {w w1 : World} {a : Option Addr} {n : Nat} {R F T : Nat → Int} (h : RSeg w a n R F T) (hs : w.heap.size ≤ w1.heap.size) (hc : ∀ x, a = some x → w1.heap[x.block]? = w.heap[x.block]?) : RSeg w1 a n R F T := by
  rcases h with h | ⟨b, off, rfl, hlt, hcell⟩
  · exact .inl h
  · have hB : w1.heap[b]? = w.heap[b]? := hc ⟨b, off, none⟩ rfl
    have hC : ∀ o, w1.cell? ⟨b, o, none⟩ = w.cell? ⟨b, o, none⟩ := fun o => World.cell?_of_block (w := w) (w' := w1) (a := ⟨b, o, none⟩) hB
    refine .inr ⟨b, off, rfl, Nat.lt_of_lt_of_le hlt hs, fun i hi => ?_⟩
    obtain ⟨h1, h2, h3⟩ := hcell i hi
    exact ⟨(hC _).trans h1, (hC _).trans h2, (hC _).trans h3⟩
def runOkB (r f t : Int) : Bool := decide (0 ≤ r ∧ r < 8 ∧ 1 ≤ f ∧ f ≤ t ∧ t ≤ 1000000000)
def apartB (r t r' f' : Int) : Bool := decide (r < r' ∨ (r = r' ∧ t + 1 < f'))
theorem runOk_true {r f t : Int} (h : 0 ≤ r ∧ r < 8 ∧ 1 ≤ f ∧ f ≤ t ∧ t ≤ 1000000000) : runOkB r f t = true := by unfold runOkB; exact decide_eq_true h
theorem runOk_false {r f t : Int} (h : ¬ (0 ≤ r ∧ r < 8 ∧ 1 ≤ f ∧ f ≤ t ∧ t ≤ 1000000000)) : runOkB r f t = false := by unfold runOkB; exact decide_eq_false h
theorem runOk_iff {r f t : Int} : runOkB r f t = true ↔ (0 ≤ r ∧ r < 8 ∧ 1 ≤ f ∧ f ≤ t ∧ t ≤ 1000000000) := by unfold runOkB; simp
theorem retB {a b : Bool} (h : a = b) : Ending.returned (.bool a) = .returned (.bool b) := by rw [h]
theorem ret_int {k : IntKind} {a b : Int} (h : a = b) : Ending.returned (.int k a) = .returned (.int k b) := by rw [h]
theorem Tryz.infoRun : (Tryz.prog.info? 64).map (fun i => (i.zero, i.size, i.bytes)) = some (some (.agg #[.int .i64 0, .int .i64 0, .int .i64 0]), 3, 24) := by kernel_rfl
theorem bcell {W w1 : World} (hb : Below W.heap.size W w1) : (∀ b o, b < W.heap.size → w1.cell? ⟨b, o, none⟩ = W.cell? ⟨b, o, none⟩) ∧ (∀ b o, b < W.heap.size → w1.frozen? ⟨b, o, none⟩ = W.frozen? ⟨b, o, none⟩) :=
  ⟨fun b o h => hb.cell (p := ⟨b, o, none⟩) h, fun b o h => hb.frozen (p := ⟨b, o, none⟩) h⟩
theorem owns_below {w w1 : World} {B C : Nat} {e : TypeId} {size : Nat} {v : Value} {n : Nat} {xs : List Value} (h : w.ownsRow B e size v n xs) (hb : Below C w w1) (hc : ∀ k, v.ownBlock = some k → k < C) : w1.ownsRow B e size v n xs := by
  obtain ⟨h1, h2⟩ := h
  refine ⟨h1, ?_⟩
  rcases h2 with h2 | ⟨g, cap, cur, rfl, hbg, hg, r⟩
  · exact .inl h2
  · exact .inr ⟨g, cap, cur, rfl, hbg, by rw [hb.block g (hc g rfl)]; exact hg, r⟩
theorem owns_cell {w : World} {B : Nat} {e : TypeId} {size g n cap : Nat} {xs : List Value} (h : w.ownsRow B e size (.slice (some ⟨g, 0, none⟩) n cap) n xs) (j : Nat) (hj : j < n * size) : ∃ u, w.cell? ⟨g, j, none⟩ = some u := by
  rw [h.cellAt j hj]
  have := h.1
  exact ⟨_, List.getElem?_eq_getElem (by omega)⟩
theorem specRunOk (r f t : Int) (w : World) :
    Calls Tryz.prog 61 #[.agg #[.int .i64 r, .int .i64 f, .int .i64 t]] w fun e w' => e = .returned (.bool (runOkB r f t)) ∧ Below w.heap.size w w' := by
  by_cases h1 : 0 ≤ r
  · by_cases h2 : r < 8
    · by_cases h3 : 1 ≤ f
      · by_cases h4 : f ≤ t
        · by_cases h5 : t ≤ 1000000000
          · have HE := hid (runOk_true ⟨h1, h2, h3, h4, h5⟩)
            go_enter Tryz.func61, Tryz.ntmps61
            go_wp2_with fail
            go_ret
            exact ⟨retB HE.out.symm, (Below.refl _ _).alloc (Nat.le_refl _) _⟩
          · have HE := hid (runOk_false (r := r) (f := f) (t := t) (by omega))
            go_enter Tryz.func61, Tryz.ntmps61
            go_wp2_with fail
            go_ret
            exact ⟨retB HE.out.symm, (Below.refl _ _).alloc (Nat.le_refl _) _⟩
        · have HE := hid (runOk_false (r := r) (f := f) (t := t) (by omega))
          go_enter Tryz.func61, Tryz.ntmps61
          go_wp2_with fail
          go_ret
          exact ⟨retB HE.out.symm, (Below.refl _ _).alloc (Nat.le_refl _) _⟩
      · have HE := hid (runOk_false (r := r) (f := f) (t := t) (by omega))
        go_enter Tryz.func61, Tryz.ntmps61
        go_wp2_with fail
        go_ret
        exact ⟨retB HE.out.symm, (Below.refl _ _).alloc (Nat.le_refl _) _⟩
    · have HE := hid (runOk_false (r := r) (f := f) (t := t) (by omega))
      go_enter Tryz.func61, Tryz.ntmps61
      go_wp2_with fail
      go_ret
      exact ⟨retB HE.out.symm, (Below.refl _ _).alloc (Nat.le_refl _) _⟩
  · have HE := hid (runOk_false (r := r) (f := f) (t := t) (by omega))
    go_enter Tryz.func61, Tryz.ntmps61
    go_wp2_with fail
    go_ret
    exact ⟨retB HE.out.symm, (Below.refl _ _).alloc (Nat.le_refl _) _⟩
theorem apart_true {r t r' f' : Int} (h : r < r' ∨ (r = r' ∧ t + 1 < f')) : apartB r t r' f' = true := by unfold apartB; exact decide_eq_true h
theorem apart_false {r t r' f' : Int} (h : ¬ (r < r' ∨ (r = r' ∧ t + 1 < f'))) : apartB r t r' f' = false := by unfold apartB; exact decide_eq_false h
theorem below2 (w : World) (o o' : Obj) : Below w.heap.size w ((w.alloc o).alloc o') := ((Below.refl _ _).alloc (Nat.le_refl _) _).alloc (by simp) _
theorem specApart (r f t r' f' t' : Int) (w : World) (h0 : 0 ≤ t) (h1 : t ≤ 1000000000) :
    Calls Tryz.prog 62 #[.agg #[.int .i64 r, .int .i64 f, .int .i64 t], .agg #[.int .i64 r', .int .i64 f', .int .i64 t']] w fun e w' => e = .returned (.bool (apartB r t r' f')) ∧ Below w.heap.size w w' := by
  by_cases c1 : r < r'
  · have HE := hid (apart_true (t := t) (f' := f') (.inl c1))
    go_enter Tryz.func62, Tryz.ntmps62
    go_wp2_with fail
    go_ret
    exact ⟨retB HE.out.symm, below2 _ _ _⟩
  · by_cases c2 : r = r'
    · subst c2
      by_cases c3 : t + 1 < f'
      · have HE := hid (apart_true (r := r) (r' := r) (.inr ⟨rfl, c3⟩))
        go_enter Tryz.func62, Tryz.ntmps62
        go_wp2_with fail
        go_ret
        exact ⟨retB HE.out.symm, below2 _ _ _⟩
      · have HE := hid (apart_false (r := r) (r' := r) (t := t) (f' := f') (by omega))
        go_enter Tryz.func62, Tryz.ntmps62
        go_wp2_with fail
        go_ret
        exact ⟨retB HE.out.symm, below2 _ _ _⟩
    · have c3 : (r == r') = false := by simp; exact c2
      have HE := hid (apart_false (r := r) (r' := r') (t := t) (f' := f') (by omega))
      go_enter Tryz.func62, Tryz.ntmps62
      go_wp2_with fail
      go_ret
      exact ⟨retB HE.out.symm, below2 _ _ _⟩
theorem eqRun (r f t : Int) (w : World) :
    Calls Tryz.prog 59 #[.agg #[.int .i64 r, .int .i64 f, .int .i64 t], .agg #[.int .i64 r, .int .i64 f, .int .i64 t]] w fun e w' => e = .returned (.bool true) ∧ Below w.heap.size w w' := by
  go_enter Tryz.func59, Tryz.ntmps59
  go_wp2_with fail
  go_ret
  exact ⟨rfl, below2 _ _ _⟩
def okTo (R F T : Nat → Int) (k : Nat) : Prop := ∀ i, i < k → runOkB (R i) (F i) (T i) = true ∧ (0 < i → apartB (R (i - 1)) (T (i - 1)) (R i) (F i) = true)
def okToB (R F T : Nat → Int) : Nat → Bool
  | 0 => true
  | k + 1 => okToB R F T k && (runOkB (R k) (F k) (T k) && (k == 0 || apartB (R (k - 1)) (T (k - 1)) (R k) (F k)))
def ctxB (R F T : Nat → Int) (n : Nat) : Bool := okToB R F T n && decide (n ≤ 1000)
theorem okToB_iff {R F T : Nat → Int} : ∀ k : Nat, okToB R F T k = true ↔ okTo R F T k
  | 0 => ⟨fun _ i hi => by omega, fun _ => rfl⟩
  | k + 1 => by
    have ih := okToB_iff (R := R) (F := F) (T := T) k
    constructor
    · intro h
      simp only [okToB, Bool.and_eq_true, Bool.or_eq_true, beq_iff_eq] at h
      intro i hi
      by_cases e : i = k
      · subst e; exact ⟨h.2.1, fun h0 => by rcases h.2.2 with h' | h'; omega; exact h'⟩
      · exact ih.1 h.1 i (by omega)
    · intro h
      simp only [okToB, Bool.and_eq_true, Bool.or_eq_true, beq_iff_eq]
      refine ⟨ih.2 (fun i hi => h i (by omega)), (h k (by omega)).1, ?_⟩
      by_cases h0 : k = 0
      · exact .inl h0
      · exact .inr ((h k (by omega)).2 (by omega))
theorem ctxB_iff {R F T : Nat → Int} {n : Nat} : ctxB R F T n = true ↔ okTo R F T n ∧ n ≤ 1000 := by
  unfold ctxB
  rw [Bool.and_eq_true, okToB_iff, decide_eq_true_iff]
theorem ctxB_false {R F T : Nat → Int} {n : Nat} (h : ¬ (okTo R F T n ∧ n ≤ 1000)) : ctxB R F T n = false := by
  cases e : ctxB R F T n with
  | false => rfl
  | true => exact absurd (ctxB_iff.1 e) h
theorem okTo_succ {R F T : Nat → Int} {k : Nat} (h : okTo R F T k) (h1 : runOkB (R k) (F k) (T k) = true) (h2 : 0 < k → apartB (R (k - 1)) (T (k - 1)) (R k) (F k) = true) : okTo R F T (k + 1) := by
  intro i hi
  by_cases e : i = k
  · subst e; exact ⟨h1, h2⟩
  · exact h i (by omega)
theorem keepS {wr w1 w2 : World} (h1 : Below wr.heap.size wr w1) (b2 : Below w1.heap.size w1 w2) : Below wr.heap.size wr w2 := h1.trans (b2.mono h1.size)
theorem take1 {P : Program} {ops : Array Oper} {Q : Exit → Act → World → Prop} {md : Region.Mode} {S : World → Prop} {i : Nat} {d : Option Tmp} {v : Value} {fuel : Nat} {listed : Array Bool} {a : Act} {w : World}
    (hd : ops[i]?.map (fun o => o.dst) = some d) (hs : Region.noSelect ops = true) (hf : Region.free md ops listed i = true) (hr : (Region.ready md ops listed).contains i = true)
    (hQ : ∀ c a w, Q (.panic c) (a.put d v) w → Q (.panic c) a w) (hy : ∀ o, ops[i]? = some o → YieldsIf P ops S o v a) (hS : S w)
    (h : wpAnyH P md ops Q S fuel (listed.setIfInBounds i true) (a.put d v) w) : wpAnyH P md ops Q S (fuel + 1) listed a w := by
  obtain ⟨o, ho, rfl⟩ := Option.map_eq_some_iff.1 hd
  exact wpAnyH_take ho hs hf hr hQ (hy o ho) hS h
theorem gZa {α : Type} {l : List α} {i : Nat} : l.toArray[i]? = l[i]? := List.getElem?_toArray
theorem gZb {α : Type} {a : α} {l : List α} {i : Nat} : (a :: l)[i + 1]? = l[i]? := List.getElem?_cons_succ
theorem gZc {α : Type} {a : α} {l : List α} : (a :: l)[0]? = some a := List.getElem?_cons_zero
theorem gZd {α : Type} {a b : α} : (some a = some b) = (a = b) := Option.some.injEq a b
theorem sZa {α : Type} (l : List α) (i : Nat) (a : α) : l.toArray.setIfInBounds i a = (l.set i a).toArray := by simp
theorem sZb {α : Type} {a b : α} {l : List α} : (a :: l).set 0 b = b :: l := List.set_cons_zero
theorem sZc {α : Type} {a b : α} {l : List α} {i : Nat} : (a :: l).set (i + 1) b = a :: l.set i b := List.set_cons_succ
theorem tk {P : Program} {ops : Array Oper} {Q : Exit → Act → World → Prop} {md : Region.Mode} {S : World → Prop} (i : Nat) (d : Tmp) (v : Value) {fuel : Nat} {listed : Array Bool} {a : Act} {w : World}
    (hb : ((ops[i]?.map (fun o => o.dst) == some (some d)) && (Region.noSelect ops && (Region.free md ops listed i && (Region.ready md ops listed).contains i))) = true)
    (hQ : ∀ c a w, Q (.panic c) (a.put (some d) v) w → Q (.panic c) a w) (hy : ∀ o, ops[i]? = some o → YieldsIf P ops S o v a) (hS : S w)
    (h : wpAnyH P md ops Q S fuel (listed.setIfInBounds i true) (a.put (some d) v) w) : wpAnyH P md ops Q S (fuel + 1) listed a w := by
  rw [Bool.and_eq_true, Bool.and_eq_true, Bool.and_eq_true] at hb
  exact take1 (eq_of_beq hb.1) hb.2.1 hb.2.2.1 hb.2.2.2 hQ hy hS h
theorem call1 {P : Program} {ops : Array Oper} {Q : Exit → Act → World → Prop} {md : Region.Mode} {S : World → Prop} {i : Nat} {d : Option Tmp} {fuel : Nat} {listed : Array Bool} {a : Act} {w : World}
    (hd : ops[i]?.map (fun o => o.dst) = some d) (hr : Region.ready md ops listed = [i])
    (h : ∀ o, ops[i]? = some o → o.dst = d → ∀ K' : Act → World → Prop, Shut (∀ a w, S w → (S w → wpAnyH P md ops Q S fuel (listed.setIfInBounds i true) a w) → K' a w) → if Region.wanted o (yielded ops a.tmps) = true then Oper.wp P o a w K' Q else K' (a.put o.dst undef) w) :
    wpAnyH P md ops Q S (fuel + 1) listed a w := by
  obtain ⟨o, ho, hod⟩ := Option.map_eq_some_iff.1 hd
  exact wpAnyH_ready hr (by simp) (AllReadyH.cons ho (h o ho hod) AllReadyH.nil)
theorem wrapIn (x : Int) (h0 : -9223372036854775808 ≤ x) (h1 : x ≤ 9223372036854775807) : IntKind.i64.wrap x = x := by
  rw [IntKind.wrap_i64]; omega
theorem ok_false_run {R F T : Nat → Int} {n k : Nat} (hk : k < n) (h : runOkB (R k) (F k) (T k) = false) : ctxB R F T n = false := ctxB_false fun ⟨h1, _⟩ => by
  have := (h1 k hk).1; rw [h] at this; cases this
theorem ok_false_apart {R F T : Nat → Int} {n k : Nat} (hk : k < n) (h0 : 0 < k) (h : apartB (R (k - 1)) (T (k - 1)) (R k) (F k) = false) : ctxB R F T n = false := ctxB_false fun ⟨h1, _⟩ => by
  have := (h1 k hk).2 h0; rw [h] at this; cases this
theorem specOk (a : Option Addr) (n c : Nat) (R F T : Nat → Int) (w : World) (hn : n ≤ 1048576) (h : RSeg w a n R F T) :
    Calls Tryz.prog 41 #[.agg #[.slice a n c]] w fun e w' => e = .returned (.bool (ctxB R F T n)) ∧ Below w.heap.size w w' := by
  rcases h with h | ⟨b, off, rfl, hb, hc⟩
  · subst h
    have HF : Hid (ctxB R F T 0 = true) := ctxB_iff.2 ⟨fun i hi => by omega, by omega⟩
    go_enter Tryz.func41, Tryz.ntmps41
    go_wp2_with fail
    refine wp_loop_rounds 1 ?_; rw [rounds_succ]; go_wp2_with fail
    go_ret
    exact ⟨retB HF.out.symm, (Below.refl _ _).alloc (Nat.le_refl _) _⟩
  · go_enter Tryz.func41, Tryz.ntmps41
    go_wp2_with fail
    go_loopw [3] (fun i wr => ∃ k : Nat, k ≤ n ∧ i = .int .i64 k ∧ okTo R F T k ∧ wr.cell? ⟨w.heap.size, 0, none⟩ = some (.slice (some ⟨b, off, none⟩) n c) ∧ Below w.heap.size w wr ∧ w.heap.size < wr.heap.size) (fun i _ => n - (intOf i).toNat)
    case atStart => exact ⟨0, Nat.zero_le _, rfl, fun i hi => by omega, by simp, (Below.refl _ _).alloc (Nat.le_refl _) _, by simp⟩
    case round =>
      obtain ⟨k, hk, rfl, hok, hbox, hbel, hsz⟩ := hrel
      have hbw := Nat.lt_of_lt_of_le hb hbel.size
      by_cases hlt : k < n
      · have hck : wr.cell? ⟨b, off + k * 3, none⟩ = some (.int .i64 (R k)) := (hbel.cell (p := ⟨b, _, none⟩) hb).trans (hc k hlt).1
        have hck1 : wr.cell? ⟨b, off + k * 3 + 1, none⟩ = some (.int .i64 (F k)) := (hbel.cell (p := ⟨b, _, none⟩) hb).trans (hc k hlt).2.1
        have hck2 : wr.cell? ⟨b, off + k * 3 + 2, none⟩ = some (.int .i64 (T k)) := (hbel.cell (p := ⟨b, _, none⟩) hb).trans (hc k hlt).2.2
        have hk0 : (0 : Int) ≤ (k : Int) := Int.natCast_nonneg _
        have hk1 : (k : Int) < (n : Int) := by omega
        have HB := hid hbel
        have HO := hid hok
        cases hr : runOkB (R k) (F k) (T k) with
        | false =>
          have HR := hid hr
          clear hr hc hbel hok
          go_wp2_with fail
          refine wp_region_held_drew (S := fun w' => Below wr.heap.size wr w' ∧ w'.cell? ⟨w.heap.size, 0, none⟩ = some (.slice (some ⟨b, off, none⟩) n c) ∧ w'.cell? ⟨b, off + k * 3, none⟩ = some (.int .i64 (R k)) ∧ w'.cell? ⟨b, off + k * 3 + 1, none⟩ = some (.int .i64 (F k)) ∧ w'.cell? ⟨b, off + k * 3 + 2, none⟩ = some (.int .i64 (T k))) (by kernel_rfl) ⟨(Below.refl _ _).drew, hbox, hck, hck1, hck2⟩ (fun hHeld => ?_)
          refine tk 0 11 ?_ (by kernel_rfl) (fun _ _ _ h => h) ?_ hHeld (tk 1 12 ?_ (by kernel_rfl) (fun _ _ _ h => h) ?_ hHeld (tk 2 13 ?_ (by kernel_rfl) (fun _ _ _ h => h) ?_ hHeld (tk 3 14 ?_ (by kernel_rfl) (fun _ _ _ h => h) ?_ hHeld ?_)))
          iterate 4 (rotate_left; focus (intro o ho; simp only [gZa, gZb, gZc, gZd] at ho; subst ho; refine Or.inl ⟨by rfl, ?_⟩; intro w hSw; (try dsimp only at hSw); (try simp only [Act.put, sZa, sZb, sZc]); go_simp; try with_reducible rfl))
          try simp only [Act.put, sZa, sZb, sZc]
          refine tk 4 15 ?_ (by kernel_rfl) (fun _ _ _ h => h) ?_ hHeld ?_
          rotate_left
          · (intro o ho; simp only [gZa, gZb, gZc, gZd] at ho; subst ho; refine Or.inl ⟨by rfl, ?_⟩; intro w hSw; (try dsimp only at hSw); go_simp; try with_reducible rfl)
          try simp only [Act.put, sZa, sZb, sZc]
          refine call1 (i := 5) (d := some 16) (by kernel_rfl) (by kernel_rfl) ?_
          intro o ho hod K hK; simp only [gZa, gZb, gZc, gZd] at ho; subst ho
          go_simp
          refine (specRunOk _ _ _ _).mono ?_
          rintro e w2 ⟨rfl, b2⟩
          rw [HR.out]
          have hB := keepS hHeld.1 b2
          refine hK.out _ _ ⟨hB, (hB.cell (p := ⟨w.heap.size, 0, none⟩) hsz).trans hbox, (hB.cell (p := ⟨b, _, none⟩) hbw).trans hck, (hB.cell (p := ⟨b, _, none⟩) hbw).trans hck1, (hB.cell (p := ⟨b, _, none⟩) hbw).trans hck2⟩ (fun hHeld => ?_)
          clear hK K
          try simp only [Act.put, sZa, sZb, sZc]
          refine tk 6 17 ?_ (by kernel_rfl) (fun _ _ _ h => h) ?_ hHeld (tk 7 18 ?_ (by kernel_rfl) (fun _ _ _ h => h) ?_ hHeld ?_)
          iterate 2 (rotate_left; focus (intro o ho; simp only [gZa, gZb, gZc, gZd] at ho; subst ho; refine Or.inl ⟨by rfl, ?_⟩; intro w hSw; (try dsimp only at hSw); (try simp only [Act.put, sZa, sZb, sZc]); go_simp; try with_reducible rfl))
          try simp only [Act.put, sZa, sZb, sZc]
          refine tk 8 19 undef (by kernel_rfl) (fun _ _ _ h => h) ?_ hHeld (tk 9 20 undef (by kernel_rfl) (fun _ _ _ h => h) ?_ hHeld (tk 10 21 undef (by kernel_rfl) (fun _ _ _ h => h) ?_ hHeld (tk 11 22 undef (by kernel_rfl) (fun _ _ _ h => h) ?_ hHeld ?_)))
          iterate 4 (focus (intro o ho; simp only [gZa, gZb, gZc, gZd] at ho; subst ho; (try simp only [Act.put, sZa, sZb, sZc]); exact Or.inr ⟨by rfl, rfl⟩))
          try simp only [Act.put, sZa, sZb, sZc]
          refine tk 12 23 undef (by kernel_rfl) (fun _ _ _ h => h) ?_ hHeld (tk 13 24 undef (by kernel_rfl) (fun _ _ _ h => h) ?_ hHeld (tk 14 25 undef (by kernel_rfl) (fun _ _ _ h => h) ?_ hHeld (tk 15 26 undef (by kernel_rfl) (fun _ _ _ h => h) ?_ hHeld ?_)))
          iterate 4 (focus (intro o ho; simp only [gZa, gZb, gZc, gZd] at ho; subst ho; (try simp only [Act.put, sZa, sZb, sZc]); exact Or.inr ⟨by rfl, rfl⟩))
          try simp only [Act.put, sZa, sZb, sZc]
          refine tk 16 27 undef (by kernel_rfl) (fun _ _ _ h => h) ?_ hHeld (tk 17 28 undef (by kernel_rfl) (fun _ _ _ h => h) ?_ hHeld (tk 18 29 undef (by kernel_rfl) (fun _ _ _ h => h) ?_ hHeld (tk 19 30 undef (by kernel_rfl) (fun _ _ _ h => h) ?_ hHeld ?_)))
          iterate 4 (focus (intro o ho; simp only [gZa, gZb, gZc, gZd] at ho; subst ho; (try simp only [Act.put, sZa, sZb, sZc]); exact Or.inr ⟨by rfl, rfl⟩))
          try simp only [Act.put, sZa, sZb, sZc]
          refine tk 20 31 undef (by kernel_rfl) (fun _ _ _ h => h) ?_ hHeld (tk 21 32 undef (by kernel_rfl) (fun _ _ _ h => h) ?_ hHeld (tk 22 33 undef (by kernel_rfl) (fun _ _ _ h => h) ?_ hHeld (tk 23 34 undef (by kernel_rfl) (fun _ _ _ h => h) ?_ hHeld ?_)))
          iterate 4 (focus (intro o ho; simp only [gZa, gZb, gZc, gZd] at ho; subst ho; (try simp only [Act.put, sZa, sZb, sZc]); exact Or.inr ⟨by rfl, rfl⟩))
          try simp only [Act.put, sZa, sZb, sZc]
          refine tk 24 35 undef (by kernel_rfl) (fun _ _ _ h => h) ?_ hHeld ?_
          · (intro o ho; simp only [gZa, gZb, gZc, gZd] at ho; subst ho; exact Or.inr ⟨by rfl, rfl⟩)
          try simp only [Act.put, sZa, sZb, sZc]
          refine tk 25 36 ?_ (by kernel_rfl) (fun _ _ _ h => h) ?_ hHeld ?_
          rotate_left
          · (intro o ho; simp only [gZa, gZb, gZc, gZd] at ho; subst ho; refine Or.inl ⟨by rfl, ?_⟩; intro w hSw; (try dsimp only at hSw); go_simp; try with_reducible rfl)
          try simp only [Act.put, sZa, sZb, sZc]
          refine wpAnyH_done (by kernel_rfl) ?_ _
          have HZ := hid (keepS (wr := wr) (w1 := wr) (Below.refl _ _) hB)
          clear hHeld hB b2
          go_wp2_with fail
          go_ret
          exact ⟨retB (ok_false_run hlt HR.out).symm, HB.out.trans (HZ.out.mono (by omega))⟩
        | true =>
          have HR := hid hr
          clear hr
          by_cases hk00 : k = 0
          · have hg : decide (0 < k) = false := by simp; omega
            have HK := hid hk00
            clear hc hbel hok hk00
            go_wp2_with fail
            refine wp_region_held_drew (S := fun w' => Below wr.heap.size wr w' ∧ w'.cell? ⟨w.heap.size, 0, none⟩ = some (.slice (some ⟨b, off, none⟩) n c) ∧ w'.cell? ⟨b, off + k * 3, none⟩ = some (.int .i64 (R k)) ∧ w'.cell? ⟨b, off + k * 3 + 1, none⟩ = some (.int .i64 (F k)) ∧ w'.cell? ⟨b, off + k * 3 + 2, none⟩ = some (.int .i64 (T k))) (by kernel_rfl) ⟨(Below.refl _ _).drew, hbox, hck, hck1, hck2⟩ (fun hHeld => ?_)
            refine tk 0 11 ?_ (by kernel_rfl) (fun _ _ _ h => h) ?_ hHeld (tk 1 12 ?_ (by kernel_rfl) (fun _ _ _ h => h) ?_ hHeld (tk 2 13 ?_ (by kernel_rfl) (fun _ _ _ h => h) ?_ hHeld (tk 3 14 ?_ (by kernel_rfl) (fun _ _ _ h => h) ?_ hHeld ?_)))
            iterate 4 (rotate_left; focus (intro o ho; simp only [gZa, gZb, gZc, gZd] at ho; subst ho; refine Or.inl ⟨by rfl, ?_⟩; intro w hSw; (try dsimp only at hSw); (try simp only [Act.put, sZa, sZb, sZc]); go_simp; try with_reducible rfl))
            try simp only [Act.put, sZa, sZb, sZc]
            refine tk 4 15 ?_ (by kernel_rfl) (fun _ _ _ h => h) ?_ hHeld ?_
            rotate_left
            · (intro o ho; simp only [gZa, gZb, gZc, gZd] at ho; subst ho; refine Or.inl ⟨by rfl, ?_⟩; intro w hSw; (try dsimp only at hSw); go_simp; try with_reducible rfl)
            try simp only [Act.put, sZa, sZb, sZc]
            refine call1 (i := 5) (d := some 16) (by kernel_rfl) (by kernel_rfl) ?_
            intro o ho hod K hK; simp only [gZa, gZb, gZc, gZd] at ho; subst ho
            go_simp
            refine (specRunOk _ _ _ _).mono ?_
            rintro e w2 ⟨rfl, b2⟩
            rw [HR.out]
            have hB := keepS hHeld.1 b2
            refine hK.out _ _ ⟨hB, (hB.cell (p := ⟨w.heap.size, 0, none⟩) hsz).trans hbox, (hB.cell (p := ⟨b, _, none⟩) hbw).trans hck, (hB.cell (p := ⟨b, _, none⟩) hbw).trans hck1, (hB.cell (p := ⟨b, _, none⟩) hbw).trans hck2⟩ (fun hHeld => ?_)
            clear hK K
            try simp only [Act.put, sZa, sZb, sZc]
            refine tk 6 17 ?_ (by kernel_rfl) (fun _ _ _ h => h) ?_ hHeld (tk 7 18 ?_ (by kernel_rfl) (fun _ _ _ h => h) ?_ hHeld (tk 8 19 ?_ (by kernel_rfl) (fun _ _ _ h => h) ?_ hHeld (tk 9 20 ?_ (by kernel_rfl) (fun _ _ _ h => h) ?_ hHeld ?_)))
            iterate 4 (rotate_left; focus (intro o ho; simp only [gZa, gZb, gZc, gZd] at ho; subst ho; refine Or.inl ⟨by rfl, ?_⟩; intro w hSw; (try dsimp only at hSw); (try simp only [Act.put, sZa, sZb, sZc]); go_simp; try with_reducible rfl))
            try simp only [Act.put, sZa, sZb, sZc]
            refine tk 10 21 ?_ (by kernel_rfl) (fun _ _ _ h => h) ?_ hHeld ?_
            rotate_left
            · (intro o ho; simp only [gZa, gZb, gZc, gZd] at ho; subst ho; refine Or.inl ⟨by rfl, ?_⟩; intro w hSw; (try dsimp only at hSw); go_simp; try with_reducible rfl)
            try simp only [Act.put, sZa, sZb, sZc]
            refine tk 11 22 undef (by kernel_rfl) (fun _ _ _ h => h) ?_ hHeld (tk 12 23 undef (by kernel_rfl) (fun _ _ _ h => h) ?_ hHeld (tk 13 24 undef (by kernel_rfl) (fun _ _ _ h => h) ?_ hHeld (tk 14 25 undef (by kernel_rfl) (fun _ _ _ h => h) ?_ hHeld ?_)))
            iterate 4 (focus (intro o ho; simp only [gZa, gZb, gZc, gZd] at ho; subst ho; (try simp only [Act.put, sZa, sZb, sZc]); exact Or.inr ⟨by rfl, rfl⟩))
            try simp only [Act.put, sZa, sZb, sZc]
            refine tk 15 26 undef (by kernel_rfl) (fun _ _ _ h => h) ?_ hHeld (tk 16 27 undef (by kernel_rfl) (fun _ _ _ h => h) ?_ hHeld (tk 17 28 undef (by kernel_rfl) (fun _ _ _ h => h) ?_ hHeld (tk 18 29 undef (by kernel_rfl) (fun _ _ _ h => h) ?_ hHeld ?_)))
            iterate 4 (focus (intro o ho; simp only [gZa, gZb, gZc, gZd] at ho; subst ho; (try simp only [Act.put, sZa, sZb, sZc]); exact Or.inr ⟨by rfl, rfl⟩))
            try simp only [Act.put, sZa, sZb, sZc]
            refine tk 19 30 undef (by kernel_rfl) (fun _ _ _ h => h) ?_ hHeld (tk 20 31 undef (by kernel_rfl) (fun _ _ _ h => h) ?_ hHeld (tk 21 32 undef (by kernel_rfl) (fun _ _ _ h => h) ?_ hHeld (tk 22 33 undef (by kernel_rfl) (fun _ _ _ h => h) ?_ hHeld ?_)))
            iterate 4 (focus (intro o ho; simp only [gZa, gZb, gZc, gZd] at ho; subst ho; (try simp only [Act.put, sZa, sZb, sZc]); exact Or.inr ⟨by rfl, rfl⟩))
            try simp only [Act.put, sZa, sZb, sZc]
            refine tk 23 34 undef (by kernel_rfl) (fun _ _ _ h => h) ?_ hHeld ?_
            · (intro o ho; simp only [gZa, gZb, gZc, gZd] at ho; subst ho; exact Or.inr ⟨by rfl, rfl⟩)
            try simp only [Act.put, sZa, sZb, sZc]
            refine tk 24 35 ?_ (by kernel_rfl) (fun _ _ _ h => h) ?_ hHeld (tk 25 36 ?_ (by kernel_rfl) (fun _ _ _ h => h) ?_ hHeld ?_)
            iterate 2 (rotate_left; focus (intro o ho; simp only [gZa, gZb, gZc, gZd] at ho; subst ho; refine Or.inl ⟨by rfl, ?_⟩; intro w hSw; (try dsimp only at hSw); (try simp only [Act.put, sZa, sZb, sZc]); go_simp; try with_reducible rfl))
            try simp only [Act.put, sZa, sZb, sZc]
            refine wpAnyH_done (by kernel_rfl) ?_ _
            have HX := hid hHeld.2.1
            have HZ := hid hB
            clear hHeld hB b2
            go_wp2_with fail
            go_roundw
            case rel => exact ⟨k + 1, hlt, by go_num, okTo_succ HO.out HR.out (fun h => by have := HK.out; omega), HX.out, HB.out.trans (HZ.out.mono (by omega)), by have := HZ.out.size; omega⟩
            case measure => simp [intOf]; omega
          · have hg : decide (0 < k) = true := by simp; omega
            have hcp := (hbel.cell (p := ⟨b, off + (k - 1) * 3, none⟩) hb).trans (hc (k - 1) (by omega)).1
            have hcp1 := (hbel.cell (p := ⟨b, off + (k - 1) * 3 + 1, none⟩) hb).trans (hc (k - 1) (by omega)).2.1
            have hcp2 := (hbel.cell (p := ⟨b, off + (k - 1) * 3 + 2, none⟩) hb).trans (hc (k - 1) (by omega)).2.2
            have e0 : IntKind.i64.wrap ((k : Int) - 1) = (k : Int) - 1 := wrapIn _ (by omega) (by omega)
            have e1 : ((k : Int) - 1).toNat = k - 1 := by omega
            have e2 : (1 : Int) ≤ (k : Int) := by omega
            have e3 : (k : Int) - 1 < (n : Int) := by omega
            have hpo := runOk_iff.1 (hok (k - 1) (by omega)).1
            have HP := hid hpo
            have HK := hid hk00
            clear hc hbel hok hk00 hpo
            go_wp2_with fail
            refine wp_region_held_drew (S := fun w' => Below wr.heap.size wr w' ∧ w'.cell? ⟨w.heap.size, 0, none⟩ = some (.slice (some ⟨b, off, none⟩) n c) ∧ w'.cell? ⟨b, off + k * 3, none⟩ = some (.int .i64 (R k)) ∧ w'.cell? ⟨b, off + k * 3 + 1, none⟩ = some (.int .i64 (F k)) ∧ w'.cell? ⟨b, off + k * 3 + 2, none⟩ = some (.int .i64 (T k)) ∧ w'.cell? ⟨b, off + (k - 1) * 3, none⟩ = some (.int .i64 (R (k - 1))) ∧ w'.cell? ⟨b, off + (k - 1) * 3 + 1, none⟩ = some (.int .i64 (F (k - 1))) ∧ w'.cell? ⟨b, off + (k - 1) * 3 + 2, none⟩ = some (.int .i64 (T (k - 1)))) (by kernel_rfl) ⟨(Below.refl _ _).drew, hbox, hck, hck1, hck2, hcp, hcp1, hcp2⟩ (fun hHeld => ?_)
            refine tk 0 11 ?_ (by kernel_rfl) (fun _ _ _ h => h) ?_ hHeld (tk 1 12 ?_ (by kernel_rfl) (fun _ _ _ h => h) ?_ hHeld (tk 2 13 ?_ (by kernel_rfl) (fun _ _ _ h => h) ?_ hHeld (tk 3 14 ?_ (by kernel_rfl) (fun _ _ _ h => h) ?_ hHeld ?_)))
            iterate 4 (rotate_left; focus (intro o ho; simp only [gZa, gZb, gZc, gZd] at ho; subst ho; refine Or.inl ⟨by rfl, ?_⟩; intro w hSw; (try dsimp only at hSw); (try simp only [Act.put, sZa, sZb, sZc]); go_simp; try with_reducible rfl))
            try simp only [Act.put, sZa, sZb, sZc]
            refine tk 4 15 ?_ (by kernel_rfl) (fun _ _ _ h => h) ?_ hHeld ?_
            rotate_left
            · (intro o ho; simp only [gZa, gZb, gZc, gZd] at ho; subst ho; refine Or.inl ⟨by rfl, ?_⟩; intro w hSw; (try dsimp only at hSw); go_simp; try with_reducible rfl)
            try simp only [Act.put, sZa, sZb, sZc]
            refine call1 (i := 5) (d := some 16) (by kernel_rfl) (by kernel_rfl) ?_
            intro o ho hod K hK; simp only [gZa, gZb, gZc, gZd] at ho; subst ho
            go_simp
            refine (specRunOk _ _ _ _).mono ?_
            rintro e w2 ⟨rfl, b2⟩
            rw [HR.out]
            have hB := keepS hHeld.1 b2
            refine hK.out _ _ ⟨hB, (hB.cell (p := ⟨w.heap.size, 0, none⟩) hsz).trans hbox, (hB.cell (p := ⟨b, _, none⟩) hbw).trans hck, (hB.cell (p := ⟨b, _, none⟩) hbw).trans hck1, (hB.cell (p := ⟨b, _, none⟩) hbw).trans hck2, (hB.cell (p := ⟨b, _, none⟩) hbw).trans hcp, (hB.cell (p := ⟨b, _, none⟩) hbw).trans hcp1, (hB.cell (p := ⟨b, _, none⟩) hbw).trans hcp2⟩ (fun hHeld => ?_)
            clear hK K
            try simp only [Act.put, sZa, sZb, sZc]
            refine tk 6 17 ?_ (by kernel_rfl) (fun _ _ _ h => h) ?_ hHeld (tk 7 18 ?_ (by kernel_rfl) (fun _ _ _ h => h) ?_ hHeld (tk 8 19 ?_ (by kernel_rfl) (fun _ _ _ h => h) ?_ hHeld (tk 9 20 ?_ (by kernel_rfl) (fun _ _ _ h => h) ?_ hHeld ?_)))
            iterate 4 (rotate_left; focus (intro o ho; simp only [gZa, gZb, gZc, gZd] at ho; subst ho; refine Or.inl ⟨by rfl, ?_⟩; intro w hSw; (try dsimp only at hSw); (try simp only [Act.put, sZa, sZb, sZc]); go_simp; try with_reducible rfl))
            try simp only [Act.put, sZa, sZb, sZc]
            refine tk 10 21 ?_ (by kernel_rfl) (fun _ _ _ h => h) ?_ hHeld (tk 11 22 ?_ (by kernel_rfl) (fun _ _ _ h => h) ?_ hHeld (tk 12 23 ?_ (by kernel_rfl) (fun _ _ _ h => h) ?_ hHeld (tk 13 24 ?_ (by kernel_rfl) (fun _ _ _ h => h) ?_ hHeld ?_)))
            iterate 4 (rotate_left; focus (intro o ho; simp only [gZa, gZb, gZc, gZd] at ho; subst ho; refine Or.inl ⟨by rfl, ?_⟩; intro w hSw; (try dsimp only at hSw); (try simp only [Act.put, sZa, sZb, sZc]); go_simp; try with_reducible rfl))
            try simp only [Act.put, sZa, sZb, sZc]
            refine tk 14 25 ?_ (by kernel_rfl) (fun _ _ _ h => h) ?_ hHeld (tk 15 26 ?_ (by kernel_rfl) (fun _ _ _ h => h) ?_ hHeld (tk 16 27 ?_ (by kernel_rfl) (fun _ _ _ h => h) ?_ hHeld (tk 17 28 ?_ (by kernel_rfl) (fun _ _ _ h => h) ?_ hHeld ?_)))
            iterate 4 (rotate_left; focus (intro o ho; simp only [gZa, gZb, gZc, gZd] at ho; subst ho; refine Or.inl ⟨by rfl, ?_⟩; intro w hSw; (try dsimp only at hSw); (try simp only [Act.put, sZa, sZb, sZc]); go_simp; try with_reducible rfl))
            try simp only [Act.put, sZa, sZb, sZc]
            refine tk 18 29 ?_ (by kernel_rfl) (fun _ _ _ h => h) ?_ hHeld (tk 19 30 ?_ (by kernel_rfl) (fun _ _ _ h => h) ?_ hHeld (tk 20 31 ?_ (by kernel_rfl) (fun _ _ _ h => h) ?_ hHeld (tk 21 32 ?_ (by kernel_rfl) (fun _ _ _ h => h) ?_ hHeld ?_)))
            iterate 4 (rotate_left; focus (intro o ho; simp only [gZa, gZb, gZc, gZd] at ho; subst ho; refine Or.inl ⟨by rfl, ?_⟩; intro w hSw; (try dsimp only at hSw); (try simp only [Act.put, sZa, sZb, sZc]); go_simp; try with_reducible rfl))
            try simp only [Act.put, sZa, sZb, sZc]
            refine call1 (i := 22) (d := some 33) (by kernel_rfl) (by kernel_rfl) ?_
            intro o ho hod K hK; simp only [gZa, gZb, gZc, gZd] at ho; subst ho
            go_simp
            refine (specApart (R (k - 1)) (F (k - 1)) (T (k - 1)) (R k) (F k) (T k) _ (by have := HP.out; omega) (by have := HP.out; omega)).mono ?_
            rintro e w3 ⟨rfl, b3⟩
            have hB3 := keepS hB b3
            cases ha : apartB (R (k - 1)) (T (k - 1)) (R k) (F k) with
            | false =>
              have HA := hid ha
              clear ha
              refine hK.out _ _ ⟨hB3, (hB3.cell (p := ⟨w.heap.size, 0, none⟩) hsz).trans hbox, (hB3.cell (p := ⟨b, _, none⟩) hbw).trans hck, (hB3.cell (p := ⟨b, _, none⟩) hbw).trans hck1, (hB3.cell (p := ⟨b, _, none⟩) hbw).trans hck2, (hB3.cell (p := ⟨b, _, none⟩) hbw).trans hcp, (hB3.cell (p := ⟨b, _, none⟩) hbw).trans hcp1, (hB3.cell (p := ⟨b, _, none⟩) hbw).trans hcp2⟩ (fun hHeld => ?_)
              clear hK K
              try simp only [Act.put, sZa, sZb, sZc]
              refine tk 23 34 ?_ (by kernel_rfl) (fun _ _ _ h => h) ?_ hHeld (tk 24 35 ?_ (by kernel_rfl) (fun _ _ _ h => h) ?_ hHeld (tk 25 36 ?_ (by kernel_rfl) (fun _ _ _ h => h) ?_ hHeld ?_))
              iterate 3 (rotate_left; focus (intro o ho; simp only [gZa, gZb, gZc, gZd] at ho; subst ho; refine Or.inl ⟨by rfl, ?_⟩; intro w hSw; (try dsimp only at hSw); (try simp only [Act.put, sZa, sZb, sZc]); go_simp; try with_reducible rfl))
              try simp only [Act.put, sZa, sZb, sZc]
              refine wpAnyH_done (by kernel_rfl) ?_ _
              have HZ := hid hB3
              clear hHeld hB b2 b3 hB3
              go_wp2_with fail
              go_ret
              exact ⟨retB (ok_false_apart hlt (by have := HK.out; omega) HA.out).symm, HB.out.trans (HZ.out.mono (by omega))⟩
            | true =>
              have HA := hid ha
              clear ha
              refine hK.out _ _ ⟨hB3, (hB3.cell (p := ⟨w.heap.size, 0, none⟩) hsz).trans hbox, (hB3.cell (p := ⟨b, _, none⟩) hbw).trans hck, (hB3.cell (p := ⟨b, _, none⟩) hbw).trans hck1, (hB3.cell (p := ⟨b, _, none⟩) hbw).trans hck2, (hB3.cell (p := ⟨b, _, none⟩) hbw).trans hcp, (hB3.cell (p := ⟨b, _, none⟩) hbw).trans hcp1, (hB3.cell (p := ⟨b, _, none⟩) hbw).trans hcp2⟩ (fun hHeld => ?_)
              clear hK K
              try simp only [Act.put, sZa, sZb, sZc]
              refine tk 23 34 ?_ (by kernel_rfl) (fun _ _ _ h => h) ?_ hHeld (tk 24 35 ?_ (by kernel_rfl) (fun _ _ _ h => h) ?_ hHeld (tk 25 36 ?_ (by kernel_rfl) (fun _ _ _ h => h) ?_ hHeld ?_))
              iterate 3 (rotate_left; focus (intro o ho; simp only [gZa, gZb, gZc, gZd] at ho; subst ho; refine Or.inl ⟨by rfl, ?_⟩; intro w hSw; (try dsimp only at hSw); (try simp only [Act.put, sZa, sZb, sZc]); go_simp; try with_reducible rfl))
              try simp only [Act.put, sZa, sZb, sZc]
              refine wpAnyH_done (by kernel_rfl) ?_ _
              have HX := hid hHeld.2.1
              have HZ := hid hB3
              clear hHeld hB b2 b3 hB3 e0 e1 e2 e3
              go_wp2_with fail
              go_roundw
              case rel => exact ⟨k + 1, hlt, by go_num, okTo_succ HO.out HR.out (fun _ => HA.out), HX.out, HB.out.trans (HZ.out.mono (by omega)), by have := HZ.out.size; omega⟩
              case measure => simp [intOf]; omega
      · obtain rfl : k = n := by omega
        have HB := hid hbel
        by_cases hm : k ≤ 1000
        · have HF : Hid (ctxB R F T k = true) := ctxB_iff.2 ⟨hok, hm⟩
          have hd : decide ((k : Int) ≤ 1000) = true := by simp; omega
          clear hc hbel hok
          go_wp2_with fail
          go_ret
          exact ⟨retB HF.out.symm, HB.out⟩
        · have HF : Hid (ctxB R F T k = false) := ctxB_false fun h => hm h.2
          have hd : decide ((k : Int) ≤ 1000) = false := by simp; omega
          clear hc hbel hok
          go_wp2_with fail
          go_ret
          exact ⟨retB HF.out.symm, HB.out⟩
def Seg (w : World) (a : Option Addr) (n : Nat) (f : Nat → Int) : Prop :=
  n = 0 ∨ ∃ b off, a = some ⟨b, off, none⟩ ∧ b < w.heap.size ∧ ∀ i, i < n → w.cell? ⟨b, off + i, none⟩ = some (.int .u8 (f i))
def Byt (f : Nat → Int) : Prop := ∀ i, 0 ≤ f i ∧ f i < 256
theorem Seg.below {w w' : World} {a : Option Addr} {n : Nat} {f : Nat → Int} (h : Seg w a n f) (hb : Below w.heap.size w w') : Seg w' a n f := by
  rcases h with h | ⟨b, off, rfl, hlt, hc⟩
  · exact .inl h
  · exact .inr ⟨b, off, rfl, Nat.lt_of_lt_of_le hlt hb.size, fun i hi => (hb.cell (p := ⟨b, off + i, none⟩) hlt).trans (hc i hi)⟩
theorem Tryz.infoByte : (Tryz.prog.info? 5).map (fun i => (i.zero, i.size, i.bytes)) = some (some (.int .u8 0), 1, 1) := by kernel_rfl
def cells8 (f : Nat → Int) (n : Nat) : List Value := (List.range n).map fun i => .int .u8 (f i)
def mix (f : Nat → Int) (k : Nat) (i : Nat) : Int := if i < k then f i else 0
theorem cells8_get (f : Nat → Int) (n i : Nat) (h : i < n) : (cells8 f n)[i]? = some (.int .u8 (f i)) := by
  simp [cells8, h]
theorem cells8_zero (f : Nat → Int) (n : Nat) : (madeCells #[.int .u8 0] n).toList = cells8 (mix f 0) n := by
  rw [toList_madeCells_one]
  apply List.ext_getElem?
  intro j
  by_cases hj : j < n
  · simp [cells8, hj, mix]
  · simp [cells8, hj]
theorem cells8_set (f : Nat → Int) (n k : Nat) (h : k < n) : (cells8 (mix f k) n).set k (.int .u8 (f k)) = cells8 (mix f (k + 1)) n := by
  apply List.ext_getElem?
  intro j
  by_cases hj : j < n
  · by_cases hjk : k = j
    · subst hjk; simp [cells8, hj, mix]
    · rw [List.getElem?_set_ne hjk, cells8_get _ _ _ hj, cells8_get _ _ _ hj]
      have : mix f k j = mix f (k + 1) j := by unfold mix; split <;> split <;> first | rfl | omega
      rw [this]
  · rw [List.getElem?_eq_none (by simp [cells8]; omega), List.getElem?_eq_none (by simp [cells8]; omega)]
theorem seg_own {w : World} {B g n cap : Nat} {f : Nat → Int} (h : w.ownsRow B 5 1 (.slice (some ⟨g, 0, none⟩) n cap) n (cells8 (mix f n) n)) : Seg w (some ⟨g, 0, none⟩) n f := by
  refine .inr ⟨g, 0, rfl, (h.lt g rfl).2, fun i hi => ?_⟩
  rw [Nat.zero_add, h.cellAt i (by omega), cells8_get _ _ _ hi]
  simp [mix, hi]
theorem eqByteS (a a' : Option Addr) (n c c' : Nat) (f : Nat → Int) (w : World) (hn : n ≤ 1000000000) (hf : Byt f) (h : Seg w a n f) (h' : Seg w a' n f) :
    Calls Tryz.prog 8 #[.slice a n c, .slice a' n c'] w fun e w' => e = .returned (.bool true) ∧ Below w.heap.size w w' := by
  rcases h with h | ⟨b, off, rfl, hb, hc⟩
  · subst h
    go_enter Tryz.func8, Tryz.ntmps8
    go_wp2
    refine wp_loop_rounds 1 ?_; rw [rounds_succ]; go_wp2
    go_ret
    exact ⟨rfl, Below.refl _ _⟩
  · rcases h' with h' | ⟨b', off', rfl, hb', hc'⟩
    · subst h'
      go_enter Tryz.func8, Tryz.ntmps8
      go_wp2
      refine wp_loop_rounds 1 ?_; rw [rounds_succ]; go_wp2
      go_ret
      exact ⟨rfl, Below.refl _ _⟩
    · go_enter Tryz.func8, Tryz.ntmps8
      go_wp2
      go_loopw [5] (fun i wr => ∃ k : Nat, k ≤ n ∧ i = .int .i64 k ∧ Below w.heap.size w wr) (fun i _ => n - (intOf i).toNat)
      case atStart => exact ⟨0, Nat.zero_le _, rfl, Below.refl _ _⟩
      case round =>
        obtain ⟨k, hk, rfl, hbel⟩ := hrel
        by_cases hlt : k < n
        · have hck : wr.cell? ⟨b, off + k, none⟩ = some (.int .u8 (f k)) := (hbel.cell (p := ⟨b, off + k, none⟩) hb).trans (hc k hlt)
          have hck' : wr.cell? ⟨b', off' + k, none⟩ = some (.int .u8 (f k)) := (hbel.cell (p := ⟨b', off' + k, none⟩) hb').trans (hc' k hlt)
          have hfk := hf k
          go_wp2
          go_region
          all_goals (try go_wp2)
          go_roundw
          case rel => exact ⟨k + 1, hlt, by go_num, hbel.drew⟩
          case measure => simp [intOf]; omega
        · obtain rfl : k = n := by omega
          go_wp2
          go_ret
          exact ⟨rfl, hbel⟩
theorem seg_of {w : World} {a0 : Option Addr} {len0 cap0 : Nat} {z0 : List Int}
    (w0 : (a0 = none ∧ len0 = 0 ∧ cap0 = 0 ∧ z0 = []) ∨
      ∃ x, a0 = some x ∧ len0 ≤ cap0 ∧ cap0 ≤ maxLen ∧ z0.length = cap0 ∧ (∀ i, i < z0.length → w.cell? (x.add i) = some (.int .u8 (z0.getD i 0))) ∧ ∀ n ∈ z0, (Lit.int .u8 n).wf = true) :
    Seg w a0 len0 (fun i => z0.getD i 0) ∧ Byt (fun i => z0.getD i 0) ∧ len0 ≤ 9223372036854775807 := by
  rcases w0 with ⟨rfl, rfl, rfl, rfl⟩ | ⟨⟨b, off, sp⟩, rfl, hl, hm, hz, hcell, hwz⟩
  · exact ⟨.inl rfl, fun i => by simp, by omega⟩
  · refine ⟨?_, fun i => ?_, by unfold maxLen at hm; omega⟩
    · by_cases h0 : len0 = 0
      · exact .inl h0
      · have hc0 := hcell 0 (by omega)
        have hsp : sp = none := by simpa [Addr.add] using World.cell?_spot hc0
        subst hsp
        refine .inr ⟨b, off, rfl, block_lt_of_cell hc0, fun i hi => ?_⟩
        have h := hcell i (by omega)
        by_cases hi0 : i = 0
        · subst hi0; simpa [Addr.add] using h
        · simpa [Addr.add, hi0] using h
    · by_cases hi : i < z0.length
      · have := hwz (z0.getD i 0) (by simp [List.getD, hi])
        have b := bounds_u8 this
        show 0 ≤ z0.getD i 0 ∧ z0.getD i 0 < 256
        omega
      · simp [List.getD, hi]
end Go.Proofs.YtakmpmhjcngbbaaGreatDoor
