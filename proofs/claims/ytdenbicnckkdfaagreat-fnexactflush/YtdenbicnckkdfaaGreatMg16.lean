import Derived.Test.YtdenbicnckkdfaaGreatMg15
namespace Go.Proofs.YtdenbicnckkdfaaGreat
open Go.ChangeShapes Go.WideShapes Go.ChangeAt Go.RowKit Go.Maps
set_option linter.unusedVariables false
set_option linter.unusedSimpArgs false

def wayOf (p : List ByteArray) (k : Int) : List Ky := (List.range p.length).map fun i => (gS p i, if i + 1 < p.length then 3 else k)
theorem wayOf_len (p : List ByteArray) (k : Int) : (wayOf p k).length = p.length := by simp [wayOf]
theorem wayOf_get {p : List ByteArray} {k : Int} {i : Nat} (h : i < p.length) : (wayOf p k)[i]? = some (gS p i, if i + 1 < p.length then 3 else k) := by simp [wayOf, h]
theorem wayOf_take {p : List ByteArray} {k : Int} {i : Nat} (h : i < p.length) : (wayOf p k).take (i + 1) = (wayOf p k).take i ++ [(gS p i, if i + 1 < p.length then 3 else k)] := by
  have h' : i < (wayOf p k).length := by rw [wayOf_len]; exact h
  rw [List.take_add_one, wayOf_get h]; rfl
theorem gS_ext {p q : List ByteArray} (hl : p.length = q.length) (h : ∀ i, i < p.length → gS p i = gS q i) : p = q := by
  refine List.ext_getElem hl fun i h1 h2 => ?_
  have := h i h1
  simpa [gS, List.getD, h1, h2] using this
theorem wayOf_inj {p q : List ByteArray} {k j : Int} (h : wayOf p k = wayOf q j) (h0 : 0 < p.length) : p = q ∧ k = j := by
  have hl : p.length = q.length := by have := congrArg List.length h; simpa [wayOf_len] using this
  have each : ∀ i, i < p.length → (gS p i, if i + 1 < p.length then 3 else k) = (gS q i, if i + 1 < q.length then (3 : Int) else j) := fun i hi => by
    have := wayOf_get (k := k) hi
    rw [h, wayOf_get (by omega)] at this
    injection this with this
    exact this.symm
  refine ⟨gS_ext hl fun i hi => (Prod.mk.inj (each i hi)).1, ?_⟩
  have := (Prod.mk.inj (each (p.length - 1) (by omega))).2
  rw [if_neg (by omega), if_neg (by omega)] at this
  exact this
theorem take_pre {α : Type} {l : List α} {k : Nat} {x : α} {q : List α} (h : l.take (k + 1) = l.take k ++ [x]) : q <+: l.take (k + 1) ↔ q <+: l.take k ∨ q = l.take k ++ [x] := by
  rw [h]
  constructor
  · intro hq
    rcases List.prefix_concat_iff.1 hq with e | e
    · exact .inr e
    · exact .inl e
  · rintro (e | e)
    · exact e.trans (List.prefix_append _ _)
    · rw [e]; exact List.prefix_refl _

structure Tre (w : World) (B : Nat) (N : List Ky → Option (Nat × Nat)) (M : List Ky → Dt → Option ByteArray) (c : Nat) : Prop where
  kids : ∀ p x, N p = some x → MapF w 125 keyV nodV x.1 c (fun y => N (p ++ [y]))
  marks : ∀ p x, N p = some x → MapF w 67 dtV mrkV x.2 c (M p)
  apart : ∀ p q x y, N p = some x → N q = some y → x.1 ≠ y.2 ∧ (x.1 = y.1 → p = q) ∧ (x.2 = y.2 → p = q)
  lo : ∀ p x, N p = some x → B ≤ x.1 ∧ B ≤ x.2
  none' : ∀ p, N p = none → M p = fun _ => none
  up : ∀ p y, N p = none → N (p ++ [y]) = none
section
variable {w w' : World} {B c : Nat} {N : List Ky → Option (Nat × Nat)} {M : List Ky → Dt → Option ByteArray}
theorem Tre.same (h : Tre w B N M c) (hs : ∀ p x, N p = some x → w'.heap[x.1]? = w.heap[x.1]? ∧ w'.heap[x.2]? = w.heap[x.2]?) : Tre w' B N M c :=
  ⟨fun p x hx => (h.kids p x hx).same (hs p x hx).1, fun p x hx => (h.marks p x hx).same (hs p x hx).2, h.apart, h.lo, h.none', h.up⟩
theorem Tre.lt (h : Tre w B N M c) {p : List Ky} {x : Nat × Nat} (hx : N p = some x) : x.1 < w.heap.size ∧ x.2 < w.heap.size := ⟨(h.kids p x hx).lt, (h.marks p x hx).lt⟩
theorem Tre.below (h : Tre w B N M c) (hb : Below w.heap.size w w') : Tre w' B N M c := h.same fun p x hx => ⟨hb.block _ (h.lt hx).1, hb.block _ (h.lt hx).2⟩
theorem Tre.mono {c' : Nat} (h : Tre w B N M c) (hc : c ≤ c') : Tre w B N M c' := ⟨fun p x hx => (h.kids p x hx).mono hc, fun p x hx => (h.marks p x hx).mono hc, h.apart, h.lo, h.none', h.up⟩
theorem Tre.alloc (h : Tre w B N M c) (o : Obj) : Tre (w.alloc o) B N M c := h.below ((Below.refl _ _).alloc (Nat.le_refl _) _)
theorem cell_obj {w : World} {q : Addr} {v : Value} (h : w.cell? q = some v) : ∀ es clock, w.heap[q.block]? ≠ some (.map es clock) := by
  intro es clock e
  simp [World.cell?, e] at h
theorem Tre.set (h : Tre w B N M c) {q : Addr} {v : Value} (u : Value) (hc : w.cell? q = some v) : Tre (w.setCell q u) B N M c := by
  refine h.same fun p x hx => ⟨Below.heap_setCell _ _ _ _ fun e => ?_, Below.heap_setCell _ _ _ _ fun e => ?_⟩
  · obtain ⟨es, cl, ho⟩ := (h.kids p x hx).obj
    rw [e] at ho; exact cell_obj hc _ _ ho
  · obtain ⟨es, cl, ho⟩ := (h.marks p x hx).obj
    rw [e] at ho; exact cell_obj hc _ _ ho

structure Gt (B : Nat) (w w' : World) : Prop where
  os : w'.os = w.os
  tape : w'.tape = w.tape
  output : w'.output = w.output
  size : w.heap.size ≤ w'.heap.size
  block : ∀ g, g < w.heap.size → (g < B ∨ ∀ es cl, w.heap[g]? ≠ some (.map es cl)) → w'.heap[g]? = w.heap[g]?
theorem Gt.refl (B : Nat) (w : World) : Gt B w w := ⟨rfl, rfl, rfl, Nat.le_refl _, fun _ _ _ => rfl⟩
theorem Gt.trans {a b d : World} (h : Gt B a b) (k : Gt B b d) : Gt B a d :=
  ⟨k.os.trans h.os, k.tape.trans h.tape, k.output.trans h.output, Nat.le_trans h.size k.size, fun g hg ho => by
    have e := h.block g hg ho
    exact (k.block g (Nat.lt_of_lt_of_le hg h.size) (ho.imp id fun hn es cl => by rw [e]; exact hn es cl)).trans e⟩
theorem Gt.of_below (h : Below w.heap.size w w') : Gt B w w' := ⟨h.os, h.tape, h.output, h.size, fun g hg _ => h.block g hg⟩
theorem Gt.below (h : Gt B w w') (hB : B ≤ w.heap.size) : Below B w w' := ⟨h.os, h.tape, h.output, h.size, fun g hg => h.block g (by omega) (.inl hg)⟩
theorem Gt.cell (h : Gt B w w') {q : Addr} {v : Value} (hc : w.cell? q = some v) : w'.cell? q = some v :=
  (World.cell?_of_block (h.block q.block (block_lt_of_cell hc) (.inr (cell_obj hc)))).trans hc
theorem Gt.frozen (h : Gt B w w') {q r : Addr} {v : Value} (hc : w.cell? r = some v) (hr : r.block = q.block) : w'.frozen? q = w.frozen? q :=
  World.frozen?_of_block (by rw [← hr]; exact h.block r.block (block_lt_of_cell hc) (.inr (cell_obj hc)))
theorem Gt.grown {b : Nat} (hg : w.grownBy w' (some b)) (hB : B ≤ b) (ho : ∃ es cl, w.heap[b]? = some (.map es cl)) : Gt B w w' :=
  ⟨hg.os, hg.tape, hg.output, hg.size, fun g h1 h2 => hg.block g h1 fun e => by
    injection e with e
    subst e
    obtain ⟨es, cl, ho⟩ := ho
    rcases h2 with h2 | h2
    · omega
    · exact h2 _ _ ho⟩

theorem Tre.add {p : List Ky} {y : Ky} {x : Nat × Nat} {s s' : Nat} (h : Tre w B N M c) (hN : N p = some x) (hn : N (p ++ [y]) = none) (hk : MapF w 125 (α := Ky) keyV nodV s 0 (fun _ => none)) (hm : MapF w 67 (α := Dt) dtV mrkV s' 0 (fun _ => none)) (hss : s ≠ s')
    (hs : ∀ p x, N p = some x → x.1 < s ∧ x.2 < s ∧ x.1 < s' ∧ x.2 < s') (hB : B ≤ s ∧ B ≤ s')
    (hu : MapF w' 125 keyV nodV x.1 (c + 1) (updF (fun z => N (p ++ [z])) y (some (s, s')))) (hg : w.grownBy w' (some x.1)) : Tre w' B (updF N (p ++ [y]) (some (s, s'))) M (c + 1) := by
  have hne : ∀ q z, q ≠ p → q ++ [z] ≠ p ++ [y] := fun q z hq e => hq (List.append_inj' e rfl).1
  have blk : ∀ g, g < w.heap.size → g ≠ x.1 → w'.heap[g]? = w.heap[g]? := fun g h1 h2 => hg.block g h1 (fun e => h2 (by injection e))
  have hsx := hs p x hN
  refine ⟨fun q z hz => ?_, fun q z hz => ?_, fun q r u v hu' hv => ?_, fun q z hz => ?_, fun q hq => ?_, fun q z hq => ?_⟩
  · by_cases e : q = p ++ [y]
    · subst e
      rw [updF_same] at hz
      injection hz with hz
      subst hz
      refine ((hk.same (blk _ hk.lt (by simp; omega))).mono (Nat.zero_le _)).ext fun z => ?_
      rw [updF_other _ _ (by intro e; have := congrArg List.length e; simp at this)]
      exact (h.up _ z hn).symm
    · rw [updF_other _ _ e] at hz
      by_cases e2 : q = p
      · subst e2
        rw [hN] at hz
        injection hz with hz
        subst hz
        refine hu.ext fun z => ?_
        by_cases e3 : z = y
        · subst e3; rw [updF_same, updF_same]
        · rw [updF_other _ _ e3, updF_other _ _ (fun e => e3 (by simpa using e))]
      · have hk' := h.kids q z hz
        refine ((hk'.same (blk _ hk'.lt fun e3 => e2 ((h.apart q p z x hz hN).2.1 e3))).mono (Nat.le_succ _)).ext fun z => ?_
        rw [updF_other _ _ (hne q z e2)]
  · by_cases e : q = p ++ [y]
    · subst e
      rw [updF_same] at hz
      injection hz with hz
      subst hz
      refine ((hm.same (blk _ hm.lt (by simp; omega))).mono (Nat.zero_le _)).ext fun z => ?_
      rw [h.none' _ hn]
    · rw [updF_other _ _ e] at hz
      have hm' := h.marks q z hz
      exact (hm'.same (blk _ hm'.lt fun e3 => (h.apart p q x z hN hz).1 e3.symm)).mono (Nat.le_succ _)
  · by_cases e : q = p ++ [y]
    · by_cases e' : r = p ++ [y]
      · subst e; subst e'
        rw [updF_same] at hu' hv
        injection hu' with hu'; injection hv with hv
        subst hu'; subst hv
        exact ⟨hss, fun _ => rfl, fun _ => rfl⟩
      · subst e
        rw [updF_same] at hu'
        rw [updF_other _ _ e'] at hv
        injection hu' with hu'
        subst hu'
        have := hs r v hv
        exact ⟨by simp; omega, fun e => by simp at e; omega, fun e => by simp at e; omega⟩
    · rw [updF_other _ _ e] at hu'
      by_cases e' : r = p ++ [y]
      · subst e'
        rw [updF_same] at hv
        injection hv with hv
        subst hv
        have := hs q u hu'
        exact ⟨by simp; omega, fun e => by simp at e; omega, fun e => by simp at e; omega⟩
      · rw [updF_other _ _ e'] at hv
        exact h.apart q r u v hu' hv
  · by_cases e : q = p ++ [y]
    · subst e
      rw [updF_same] at hz
      injection hz with hz
      subst hz
      exact hB
    · rw [updF_other _ _ e] at hz
      exact h.lo q z hz
  · by_cases e : q = p ++ [y]
    · subst e; rw [updF_same] at hq; cases hq
    · rw [updF_other _ _ e] at hq; exact h.none' q hq
  · by_cases e : q = p ++ [y]
    · subst e; rw [updF_same] at hq; cases hq
    · rw [updF_other _ _ e] at hq
      have e2 : q ≠ p := fun e2 => by subst e2; rw [hN] at hq; cases hq
      rw [updF_other _ _ (hne q z e2)]
      exact h.up q z hq

noncomputable def updM (M : List Ky → Dt → Option ByteArray) (p : List Ky) (d : Dt) (s : ByteArray) (q : List Ky) : Dt → Option ByteArray := if yes (q = p) = true then updF (M p) d (some s) else M q
theorem updM_same (M : List Ky → Dt → Option ByteArray) (p : List Ky) (d : Dt) (s : ByteArray) : updM M p d s p = updF (M p) d (some s) := by unfold updM; rw [if_pos (yes_t rfl)]
theorem updM_other (M : List Ky → Dt → Option ByteArray) {p q : List Ky} (d : Dt) (s : ByteArray) (h : q ≠ p) : updM M p d s q = M q := by unfold updM; rw [if_neg (by rw [yes_f h]; simp)]
theorem Tre.mark {p : List Ky} {x : Nat × Nat} {d : Dt} {s : ByteArray} (h : Tre w B N M c) (hN : N p = some x)
    (hu : MapF w' 67 dtV mrkV x.2 (c + 1) (updF (M p) d (some s))) (hg : w.grownBy w' (some x.2)) : Tre w' B N (updM M p d s) (c + 1) := by
  have blk : ∀ g, g < w.heap.size → g ≠ x.2 → w'.heap[g]? = w.heap[g]? := fun g h1 h2 => hg.block g h1 (fun e => h2 (by injection e))
  refine ⟨fun q z hz => ?_, fun q z hz => ?_, h.apart, h.lo, fun q hq => ?_, h.up⟩
  · exact ((h.kids q z hz).same (blk _ (h.lt hz).1 (h.apart q p z x hz hN).1)).mono (Nat.le_succ _)
  · by_cases e : q = p
    · subst e
      rw [hN] at hz; injection hz with hz; subst hz
      rw [updM_same]; exact hu
    · rw [updM_other _ _ _ e]
      exact ((h.marks q z hz).same (blk _ (h.lt hz).2 fun e2 => e ((h.apart q p z x hz hN).2.2 e2))).mono (Nat.le_succ _)
  · have e : q ≠ p := fun e => by subst e; rw [hN] at hq; cases hq
    rw [updM_other _ _ _ e]; exact h.none' q hq
end
end Go.Proofs.YtdenbicnckkdfaaGreat

namespace Go.Proofs.YtdenbicnckkdfaaGreat
open Go.ChangeShapes Go.WideShapes Go.ChangeAt Go.RowKit Go.Maps
set_option linter.unusedVariables false
set_option linter.unusedSimpArgs false

theorem SSeg.gt {w w1 : World} {B : Nat} {a : Option Addr} {p : List ByteArray} (h : SSeg w a p) (hg : Gt B w w1) : SSeg w1 a p := by
  refine h.imp id ?_
  rintro ⟨b, off, e, hlt, hc⟩
  exact ⟨b, off, e, Nat.lt_of_lt_of_le hlt hg.size, fun i hi => hg.cell (hc i hi)⟩
theorem LSeg.gt {w w1 : World} {B : Nat} {a : Option Addr} {l : List Lf} (h : LSeg w a l) (hg : Gt B w w1) : LSeg w1 a l := by
  refine h.imp id ?_
  rintro ⟨b, off, e, hlt, hc⟩
  refine ⟨b, off, e, Nat.lt_of_lt_of_le hlt hg.size, fun i hi => ?_⟩
  obtain ⟨pa, pc, c0, s, c1, c2, c3, c4⟩ := hc i hi
  exact ⟨pa, pc, hg.cell c0, s.gt hg, hg.cell c1, hg.cell c2, hg.cell c3, hg.cell c4⟩

def onWay (p : List ByteArray) (k : Int) (i : Nat) : Ky := (gS p i, if i + 1 < p.length then 3 else k)
set_option maxRecDepth 100000 in
set_option maxHeartbeats 1000000 in
theorem keyOnWay (p : List ByteArray) (a : Option Addr) (c : Nat) (k : Int) (i : Nat) (w : World) (hp : p.length ≤ 1048576) (hi : i < p.length) (h : SSeg w a p) :
    Calls Tryz.prog 107 #[.slice a p.length c, .int .i64 i, .int .i64 k] w fun e w' => e = .returned (keyV (onWay p k i)) ∧ Below w.heap.size w w' := by
  rcases h with h | ⟨b, off, rfl, hb, hc⟩
  · omega
  have x0 := hc i hi
  have i0 : (0 : Int) ≤ (i : Int) := Int.natCast_nonneg _
  have i1 : (i : Int) < (p.length : Int) := by omega
  obtain ⟨s, hs⟩ : ∃ s, gS p i = s := ⟨_, rfl⟩
  rw [hs] at x0
  have HK : Hid (onWay p k i = (s, if i + 1 < p.length then 3 else k)) := hid (by unfold onWay; rw [hs])
  obtain ⟨m, hm⟩ : ∃ m : Nat, p.length = m + 1 := ⟨p.length - 1, by omega⟩
  have hwr : IntKind.i64.wrap ((p.length : Int) - 1) = (m : Int) := by rw [IntKind.wrap_i64]; omega
  clear hs hc
  by_cases hl : i + 1 < p.length
  · have d0 : decide (i < m) = true := by simp; omega
    have HK2 := hid (show onWay p k i = (s, 3) by rw [HK.out, if_pos hl])
    clear HK hl hm
    go_enter Tryz.func107, Tryz.ntmps107
    go_wp2_with fail
    refine bodyPost_ret (v := .agg #[.string s, .int .i64 3]) (by simp [results, Tryz.results107, go_sem]) rfl ⟨by rw [HK2.out]; rfl, ?_⟩
    exact (Below.refl _ _).alloc (Nat.le_refl _) _
  · have d0 : decide (i < m) = false := by simp; omega
    have HK2 := hid (show onWay p k i = (s, k) by rw [HK.out, if_neg hl])
    clear HK hl hm
    go_enter Tryz.func107, Tryz.ntmps107
    go_wp2_with fail
    refine bodyPost_ret (v := .agg #[.string s, .int .i64 k]) (by simp [results, Tryz.results107, go_sem]) rfl ⟨by rw [HK2.out]; rfl, ?_⟩
    exact (Below.refl _ _).alloc (Nat.le_refl _) _

set_option maxRecDepth 100000 in
set_option maxHeartbeats 1000000 in
theorem newNode (w : World) :
    Calls Tryz.prog 72 #[] w fun e w' => ∃ s s', e = .returned (.agg #[.map (some s), .map (some s')]) ∧ s ≠ s' ∧ w.heap.size ≤ s ∧ w.heap.size ≤ s' ∧ MapF w' 125 (α := Ky) keyV nodV s 0 (fun _ => none) ∧ MapF w' 67 (α := Dt) dtV mrkV s' 0 (fun _ => none) ∧ Below w.heap.size w w' := by
  have hmm := @run_makeMap Tryz.prog
  have H1 := hid ((MapF.made (α := Ky) (w.alloc (.cells #[.map (some (w.heap.size + 1)), .map (some (w.heap.size + 1 + 1))] 82)) 125 keyV nodV).same (w' := (((w.alloc (.cells #[.map (some (w.heap.size + 1)), .map (some (w.heap.size + 1 + 1))] 82)).alloc (.map #[] 0)).alloc (.map #[] 0))) (Below.heap_alloc _ _ _ (by simp)))
  have H2 := hid (MapF.made (α := Dt) ((w.alloc (.cells #[.map (some (w.heap.size + 1)), .map (some (w.heap.size + 1 + 1))] 82)).alloc (.map #[] 0)) 67 dtV mrkV)
  go_enter Tryz.func72, Tryz.ntmps72
  go_wp2_with fail
  refine bodyPost_ret (v := .agg #[.map (some (w.heap.size + 1)), .map (some (w.heap.size + 1 + 1))]) (by simp [results, Tryz.results72, go_sem]) rfl ⟨_, _, rfl, by omega, by omega, by omega, by simpa using H1.out, by simpa using H2.out, ?_⟩
  exact (((Below.refl _ _).alloc (Nat.le_refl _) _).alloc (by simp) _).alloc (by simp; omega) _

structure Bx2 (w : World) (b : Nat) (v0 v1 : Value) : Prop where
  c0 : w.cell? ⟨b, 0, none⟩ = some v0
  c1 : w.cell? ⟨b, 1, none⟩ = some v1
  f : ∀ i, w.frozen? ⟨b, i, none⟩ = false
  lt : b < w.heap.size
theorem Bx2.below {w w' : World} {B b : Nat} {v0 v1 : Value} (h : Bx2 w b v0 v1) (hb : Below B w w') (hB : b < B) : Bx2 w' b v0 v1 :=
  ⟨(hb.cell (p := ⟨b, 0, none⟩) hB).trans h.c0, (hb.cell (p := ⟨b, 1, none⟩) hB).trans h.c1, fun i => (hb.frozen (p := ⟨b, i, none⟩) hB).trans (h.f i), Nat.lt_of_lt_of_le h.lt hb.size⟩
theorem Bx2.gt {w w' : World} {B b : Nat} {v0 v1 : Value} (h : Bx2 w b v0 v1) (hg : Gt B w w') : Bx2 w' b v0 v1 :=
  ⟨hg.cell h.c0, hg.cell h.c1, fun i => (hg.frozen (q := ⟨b, i, none⟩) h.c0 rfl).trans (h.f i), Nat.lt_of_lt_of_le h.lt hg.size⟩
theorem Bx2.setAt {w : World} {b : Nat} {v0 v1 : Value} (h : Bx2 w b v0 v1) (q : Addr) (u : Value) (hq : q.block ≠ b) : Bx2 (w.setCell q u) b v0 v1 :=
  ⟨by rw [World.cell?_setCell_far _ _ _ _ hq]; exact h.c0, by rw [World.cell?_setCell_far _ _ _ _ hq]; exact h.c1, fun i => by rw [World.frozen?_setCell]; exact h.f i, by simp [World.setCell]; exact h.lt⟩
theorem Bx2.set0 {w : World} {b : Nat} {v0 v1 : Value} (h : Bx2 w b v0 v1) (u : Value) : Bx2 (w.setCell ⟨b, 0, none⟩ u) b u v1 :=
  ⟨World.cell?_setCell_same _ _ _ h.c0, by simp [World.cell?_setCell_other, h.c1], fun i => by rw [World.frozen?_setCell]; exact h.f i, by simp [World.setCell]; exact h.lt⟩
theorem Bx2.set1 {w : World} {b : Nat} {v0 v1 : Value} (h : Bx2 w b v0 v1) (u : Value) : Bx2 (w.setCell ⟨b, 1, none⟩ u) b v0 u :=
  ⟨by simp [World.cell?_setCell_other, h.c0], World.cell?_setCell_same _ _ _ h.c1, fun i => by rw [World.frozen?_setCell]; exact h.f i, by simp [World.setCell]; exact h.lt⟩
theorem Bx2.set {w : World} {b : Nat} {v0 v1 : Value} (h : Bx2 w b v0 v1) (u u' : Value) : Bx2 ((w.setCell ⟨b, 0, none⟩ u).setCell ⟨b, 1, none⟩ u') b u u' := (h.set0 u).set1 u'
theorem Bx2.made (w : World) (v0 v1 : Value) (t : TypeId) : Bx2 (w.alloc (.cells #[v0, v1] t)) w.heap.size v0 v1 := ⟨by simp, by simp, fun i => by simp, by simp⟩
theorem Bx2.allocs {w : World} {b : Nat} {v0 v1 : Value} (h : Bx2 w b v0 v1) (o : Obj) : Bx2 (w.alloc o) b v0 v1 := h.below ((Below.refl _ _).alloc (Nat.le_refl _) o) h.lt

structure Bx1 (w : World) (b : Nat) (v0 : Value) : Prop where
  c0 : w.cell? ⟨b, 0, none⟩ = some v0
  f : ∀ i, w.frozen? ⟨b, i, none⟩ = false
  lt : b < w.heap.size
theorem Bx1.below {w w' : World} {B b : Nat} {v0 : Value} (h : Bx1 w b v0) (hb : Below B w w') (hB : b < B) : Bx1 w' b v0 :=
  ⟨(hb.cell (p := ⟨b, 0, none⟩) hB).trans h.c0, fun i => (hb.frozen (p := ⟨b, i, none⟩) hB).trans (h.f i), Nat.lt_of_lt_of_le h.lt hb.size⟩
theorem Bx1.gt {w w' : World} {B b : Nat} {v0 : Value} (h : Bx1 w b v0) (hg : Gt B w w') : Bx1 w' b v0 :=
  ⟨hg.cell h.c0, fun i => (hg.frozen (q := ⟨b, i, none⟩) h.c0 rfl).trans (h.f i), Nat.lt_of_lt_of_le h.lt hg.size⟩
theorem Bx1.setAt {w : World} {b : Nat} {v0 : Value} (h : Bx1 w b v0) (q : Addr) (u : Value) (hq : q.block ≠ b) : Bx1 (w.setCell q u) b v0 :=
  ⟨by rw [World.cell?_setCell_far _ _ _ _ hq]; exact h.c0, fun i => by rw [World.frozen?_setCell]; exact h.f i, by simp [World.setCell]; exact h.lt⟩
theorem Bx1.made (w : World) (v0 : Value) (t : TypeId) : Bx1 (w.alloc (.cells #[v0] t)) w.heap.size v0 := ⟨by simp, fun i => by simp, by simp⟩

theorem Gt.set {B : Nat} {w wr : World} (h : Gt B w wr) (q : Addr) (u : Value) (hq : w.heap.size ≤ q.block) : Gt B w (wr.setCell q u) :=
  ⟨h.os, h.tape, h.output, by simpa [World.setCell] using h.size, fun g hg ho => (Below.heap_setCell _ _ _ _ (by omega)).trans (h.block g hg ho)⟩
theorem Gt.keep {B : Nat} {w wr w1 : World} (h : Gt B w wr) (hb : Below wr.heap.size wr w1) : Gt B w w1 := h.trans (Gt.of_below hb)
theorem Gt.allocs {B : Nat} {w wr : World} (h : Gt B w wr) (o : Obj) : Gt B w (wr.alloc o) := h.keep ((Below.refl _ _).alloc (Nat.le_refl _) _)
theorem wpList_mapUpdate_F {α β : Type} (w : World) {ops : Array Oper} {rest : List Oper} {o : Oper} {a : Act} {Q : Exit → Act → World → Prop}
    (hg : o.guard = none) (m x v : Operand) (mt : TypeId) (hop : o.op = Op.mapUpdate mt m x v) (t e : TypeId) (K : Keyed Tryz.prog t) (kv : α → Value) (hi : ∀ x y, kv x = kv y → x = y) (ht : Tryz.prog.underlying mt = some (.map t e)) (vo : Option β → Value) (b c : Nat) (f : α → Option β)
    (hm : a.eval m = .map (some b)) (h : MapF w t kv vo b c f) (hc : c < maxLen) (k : α) (y : β) (kl : Lit) (hx : a.eval x = kv k) (hv : a.eval v = vo (some y)) (hk : keyOf Tryz.prog t (kv k) = some kl)
    (hK : ∀ w', MapF w' t kv vo b (c + 1) (updF f k (some y)) → w.grownBy w' (some b) → wpList Tryz.prog ops Q rest (a.put o.dst undef) w') :
    wpList Tryz.prog ops Q (o :: rest) a w := by
  refine wpList_plain hg fun K' hK' => ?_
  obtain ⟨w', hrun, r1, r2⟩ := h.store K hi ht hc (y := y) hk
  unfold Oper.wp
  simp [execOp, hop, hm, hx, hv, hrun, Result.andThen]
  exact hK' _ _ (hK w' r1 r2)
end Go.Proofs.YtdenbicnckkdfaaGreat
