import Derived.Test.YtakmpmhjcngbbaaGreatDoorMgg12
import Derived.Shelf.SlSortCmp.WholeK
set_option linter.unusedVariables false
set_option linter.unusedSimpArgs false
set_option maxRecDepth 100000
set_option maxHeartbeats 40000000
namespace Go.Proofs.YtakmpmhjcngbbaaGreatDoor
open Go.ChangeShapes Go.WideShapes Go.ChangeAt Go.RowKit Go.Maps
structure Bx3 (w : World) (b : Nat) (v0 v1 v2 : Value) : Prop where
  c0 : w.cell? ⟨b, 0, none⟩ = some v0
  c1 : w.cell? ⟨b, 1, none⟩ = some v1
  c2 : w.cell? ⟨b, 2, none⟩ = some v2
  f : ∀ i, w.frozen? ⟨b, i, none⟩ = false
  lt : b < w.heap.size
theorem Bx3.below {w w' : World} {B b : Nat} {v0 v1 v2 : Value} (h : Bx3 w b v0 v1 v2) (hb : Below B w w') (hB : b < B) : Bx3 w' b v0 v1 v2 :=
  ⟨(hb.cell (p := ⟨b, 0, none⟩) hB).trans h.c0, (hb.cell (p := ⟨b, 1, none⟩) hB).trans h.c1, (hb.cell (p := ⟨b, 2, none⟩) hB).trans h.c2, fun i => (hb.frozen (p := ⟨b, i, none⟩) hB).trans (h.f i), Nat.lt_of_lt_of_le h.lt hb.size⟩
theorem Bx3.made (w : World) (v0 v1 v2 : Value) (t : TypeId) : Bx3 (w.alloc (.cells #[v0, v1, v2] t)) w.heap.size v0 v1 v2 := ⟨by simp, by simp, by simp, fun i => by simp, by simp⟩
theorem ready2t {P : Program} {ops : Array Oper} {Q : Exit → Act → World → Prop} {md : Region.Mode} {S : World → Prop} {i j : Nat} {d d' : Option Tmp} {fuel : Nat} {listed : Array Bool} {a : Act} {w : World}
    (hd : ops[i]?.map (fun o => o.dst) = some d) (hd' : ops[j]?.map (fun o => o.dst) = some d') (hr : Region.ready md ops listed = [i, j])
    (h : ∀ o, ops[i]? = some o → o.dst = d → ∀ K' : Act → World → Prop, Shut (∀ a w, S w → (S w → wpAnyH P md ops Q S fuel (listed.setIfInBounds i true) a w) → K' a w) → if Region.wanted o (yielded ops a.tmps) = true then Oper.wp P o a w K' Q else K' (a.put o.dst undef) w)
    (h' : ∀ o, ops[j]? = some o → o.dst = d' → ∀ K' : Act → World → Prop, Shut (∀ a w, S w → (S w → wpAnyH P md ops Q S fuel (listed.setIfInBounds j true) a w) → K' a w) → if Region.wanted o (yielded ops a.tmps) = true then Oper.wp P o a w K' Q else K' (a.put o.dst undef) w) :
    wpAnyH P md ops Q S (fuel + 1) listed a w := by
  obtain ⟨o, ho, hod⟩ := Option.map_eq_some_iff.1 hd
  obtain ⟨o', ho', hod'⟩ := Option.map_eq_some_iff.1 hd'
  exact wpAnyH_ready hr (by simp) (AllReadyH.cons ho (h o ho hod) (AllReadyH.cons ho' (h' o' ho' hod') AllReadyH.nil))
def mF (o : Option (Nat × Nat)) : Option Nat := o.map Prod.fst
def mS (o : Option (Nat × Nat)) : Option Nat := o.map Prod.snd
theorem nodV_eq (o : Option (Nat × Nat)) : nodV o = .agg #[.map (mF o), .map (mS o)] := by cases o <;> rfl
theorem Tre.look {w : World} {B c : Nat} {N : List Ky → Option (Nat × Nat)} {M : List Ky → Dt → Option ByteArray} (h : Tre w B N M c) (p : List Ky) (y : Ky) {kl : Lit} (hk : keyOf Tryz.prog 110 (keyV y) = some kl) :
    (Instr.lookup 44 (.map (mF (N p))) (keyV y) false).run Tryz.prog w = .ok (.agg #[.map (mF (N (p ++ [y]))), .map (mS (N (p ++ [y])))]) w := by
  rw [← nodV_eq]
  cases e : N p with
  | some x => exact (h.kids p x e).look keyKeyed Tryz.underlying44 (zeroNode w) hk
  | none =>
    rw [h.up p y e]
    exact Maps.look_nil false keyKeyed Tryz.underlying44 (zeroNode w) hk
theorem toList_inj {s t : ByteArray} (h : s.toList = t.toList) : s = t := by
  rw [ByteArray.toList_eq, ByteArray.toList_eq] at h
  exact bytes_inj h
theorem less_self : ∀ l : List UInt8, Op.bytesLess l l = false
  | [] => rfl
  | a :: l => by simp [Op.bytesLess, less_self l]
theorem cmpS_z {s t : ByteArray} : cmpS s t = 0 ↔ s = t := by
  unfold cmpS ltS eqS
  constructor
  · intro h
    split at h
    · cases h
    · split at h
      · rename_i e; exact toList_inj (by simpa using e)
      · cases h
  · rintro rfl
    rw [if_neg (by rw [less_self]; simp), if_pos (by simp)]
theorem cmpP_z : ∀ {p q : List ByteArray}, cmpP p q = 0 ↔ p = q
  | [], [] => by simp [cmpP]
  | [], _ :: _ => by simp [cmpP]
  | _ :: _, [] => by simp [cmpP]
  | s :: p, t :: q => by
    simp only [cmpP]
    by_cases e : cmpS s t = 0
    · rw [if_pos e, cmpP_z]
      have := cmpS_z.1 e
      subst this
      simp
    · rw [if_neg e]
      exact ⟨fun h => absurd h e, fun h => by injection h with h1 h2; exact absurd (cmpS_z.2 h1) e⟩
end Go.Proofs.YtakmpmhjcngbbaaGreatDoor
namespace Go.Proofs.YtakmpmhjcngbbaaGreatDoor
open Go.ChangeShapes Go.WideShapes Go.ChangeAt Go.RowKit Go.Maps Go.Sort Go.Lib Go.Shelf
structure CmpT {α : Type} (f : α → α → Int) : Prop where
  z : ∀ x y, f x y = 0 ↔ x = y
  neg : ∀ x y, f x y < 0 ↔ 0 < f y x
  tr : ∀ x y z, f x y < 0 → f y z < 0 → f x z < 0
theorem CmpT.irr {α : Type} {f : α → α → Int} (h : CmpT f) (x : α) : f x x = 0 := (h.z x x).2 rfl
theorem CmpT.swo {α : Type} {f : α → α → Int} (h : CmpT f) : SWO (ltOf f) where
  irrefl x := by simp [ltOf, h.irr x]
  trans x y z h1 h2 := by simp only [ltOf, decide_eq_true_eq] at *; exact h.tr x y z h1 h2
  ntrans x y z h1 h2 := by
    simp only [ltOf, decide_eq_false_iff_not] at *
    intro h3
    have e1 : 0 ≤ f x y := by omega
    have e2 : 0 ≤ f y z := by omega
    rcases Int.lt_or_eq_of_le e1 with e1 | e1
    · have := h.tr y x z ((h.neg y x).2 e1) h3; omega
    · have := (h.z x y).1 e1.symm; subst this; omega
theorem CmpT.int : CmpT cmpI := ⟨fun x y => cmpI_z, fun x y => by unfold cmpI; split <;> split <;> (try split) <;> (try split) <;> omega, fun x y z h1 h2 => by rw [cmpI_neg] at *; omega⟩
theorem CmpT.pair {α β : Type} {f : α → α → Int} {g : β → β → Int} (hf : CmpT f) (hg : CmpT g) : CmpT (fun x y : α × β => orI (f x.1 y.1) (g x.2 y.2)) := by
  refine ⟨fun x y => ?_, fun x y => ?_, fun x y z => ?_⟩
  · simp only [orI]
    by_cases e : f x.1 y.1 = 0
    · rw [if_pos e, hg.z]
      exact ⟨fun h => Prod.ext ((hf.z _ _).1 e) h, fun h => by rw [h]⟩
    · rw [if_neg e]
      exact ⟨fun h => absurd h e, fun h => by rw [h] at e; exact absurd (hf.irr _) e⟩
  · simp only [orI]
    by_cases e : f x.1 y.1 = 0
    · have e' : f y.1 x.1 = 0 := (hf.z _ _).2 ((hf.z _ _).1 e).symm
      rw [if_pos e, if_pos e', hg.neg]
    · have e' : f y.1 x.1 ≠ 0 := fun h => e ((hf.z _ _).2 ((hf.z _ _).1 h).symm)
      rw [if_neg e, if_neg e', hf.neg]
  · simp only [orI]
    intro h1 h2
    by_cases e : f x.1 y.1 = 0
    · rw [if_pos e] at h1
      have := (hf.z _ _).1 e
      by_cases e2 : f y.1 z.1 = 0
      · rw [if_pos e2] at h2
        have e3 : f x.1 z.1 = 0 := by rw [this]; exact e2
        rw [if_pos e3]; exact hg.tr _ _ _ h1 h2
      · rw [if_neg e2] at h2
        have e3 : f x.1 z.1 ≠ 0 := by rw [this]; exact e2
        rw [if_neg e3, this]; exact h2
    · rw [if_neg e] at h1
      by_cases e2 : f y.1 z.1 = 0
      · have := (hf.z _ _).1 e2
        have e3 : f x.1 z.1 ≠ 0 := by rw [← this]; exact e
        rw [if_neg e3, ← this]; exact h1
      · rw [if_neg e2] at h2
        have h3 := hf.tr _ _ _ h1 h2
        rw [if_neg (by omega)]; exact h3
theorem less_tri : ∀ x y : List UInt8, Op.bytesLess x y = false → Op.bytesLess y x = false → x = y
  | [], [], _, _ => rfl
  | [], _ :: _, h, _ => by simp [Op.bytesLess] at h
  | _ :: _, [], _, h => by simp [Op.bytesLess] at h
  | a :: x, b :: y, h, h' => by
    simp only [Op.bytesLess, Bool.or_eq_false_iff, decide_eq_false_iff_not, Bool.and_eq_false_iff] at h h'
    have e : a = b := by
      have h1 := h.1; have h2 := h'.1
      rcases Nat.lt_trichotomy a.toNat b.toNat with h3 | h3 | h3
      · exact absurd (UInt8.lt_iff_toNat_lt.2 h3) h1
      · exact UInt8.toNat_inj.1 h3
      · exact absurd (UInt8.lt_iff_toNat_lt.2 h3) h2
    subst e
    rw [less_tri x y (by simpa using h.2) (by simpa using h'.2)]
theorem less_asy : ∀ x y : List UInt8, Op.bytesLess x y = true → Op.bytesLess y x = false
  | [], [], _ => rfl
  | [], _ :: _, _ => rfl
  | _ :: _, [], h => by simp [Op.bytesLess] at h
  | a :: x, b :: y, h => by
    simp only [Op.bytesLess, Bool.or_eq_true, decide_eq_true_eq, Bool.and_eq_true, beq_iff_eq] at h
    simp only [Op.bytesLess, Bool.or_eq_false_iff, decide_eq_false_iff_not, Bool.and_eq_false_iff]
    rcases h with h | ⟨rfl, h⟩
    · have h' := UInt8.lt_iff_toNat_lt.1 h
      refine ⟨fun h2 => by have := UInt8.lt_iff_toNat_lt.1 h2; omega, .inl ?_⟩
      simp only [beq_eq_false_iff_ne]
      intro e; subst e; omega
    · exact ⟨fun h2 => by have := UInt8.lt_iff_toNat_lt.1 h2; omega, .inr (less_asy x y h)⟩
theorem less_trans : ∀ x y z : List UInt8, Op.bytesLess x y = true → Op.bytesLess y z = true → Op.bytesLess x z = true
  | _, _, [], _, h => by cases ‹List UInt8› <;> simp [Op.bytesLess] at h
  | [], _, _ :: _, _, _ => rfl
  | _ :: _, [], _, h, _ => by simp [Op.bytesLess] at h
  | a :: x, b :: y, c :: z, h, h' => by
    simp only [Op.bytesLess, Bool.or_eq_true, decide_eq_true_eq, Bool.and_eq_true, beq_iff_eq] at h h' ⊢
    rcases h with h | ⟨rfl, h⟩
    · rcases h' with h' | ⟨rfl, h'⟩
      · exact .inl (UInt8.lt_iff_toNat_lt.2 (by have := UInt8.lt_iff_toNat_lt.1 h; have := UInt8.lt_iff_toNat_lt.1 h'; omega))
      · exact .inl h
    · rcases h' with h' | ⟨rfl, h'⟩
      · exact .inl h'
      · exact .inr ⟨rfl, less_trans x y z h h'⟩
theorem cmpS_neg {s t : ByteArray} : cmpS s t < 0 ↔ Op.bytesLess s.toList t.toList = true := by
  unfold cmpS ltS eqS
  split
  · rename_i h; exact ⟨fun _ => h, fun _ => by decide⟩
  · rename_i h; split <;> exact ⟨fun h2 => by omega, fun h2 => absurd h2 h⟩
theorem CmpT.str : CmpT cmpS := by
  refine ⟨fun x y => cmpS_z, fun x y => ?_, fun x y z h1 h2 => ?_⟩
  · rw [cmpS_neg]
    constructor
    · intro h
      have := less_asy _ _ h
      unfold cmpS ltS eqS
      rw [if_neg (by rw [this]; simp), if_neg]
      · decide
      · intro e; rw [toList_inj (by simpa using e : y.toList = x.toList), less_self] at h; cases h
    · intro h
      cases e : Op.bytesLess x.toList y.toList with
      | true => rfl
      | false =>
        exfalso
        cases e' : Op.bytesLess y.toList x.toList with
        | true => have := cmpS_neg.2 e'; omega
        | false => rw [cmpS_z.2 (toList_inj (less_tri _ _ e' e))] at h; omega
  · rw [cmpS_neg] at *; exact less_trans _ _ _ h1 h2
def cmpK (x y : Ky) : Int := orI (cmpS x.1 y.1) (cmpI x.2 y.2)
def cmpDt (x y : Dt) : Int := orI (cmpI x.1 y.1) (cmpI x.2 y.2)
theorem CmpT.key : CmpT cmpK := CmpT.str.pair CmpT.int
theorem CmpT.dot : CmpT cmpDt := CmpT.int.pair CmpT.int
theorem CmpT.uniq {α : Type} {f : α → α → Int} (h : CmpT f) : ∀ {l m : List α}, l.Pairwise (fun x y => f x y < 0) → m.Pairwise (fun x y => f x y < 0) → (∀ x, x ∈ l ↔ x ∈ m) → l = m
  | [], [], _, _, _ => rfl
  | [], y :: m, _, _, hm => by have := (hm y).2 (by simp); simp at this
  | x :: l, [], _, _, hm => by have := (hm x).1 (by simp); simp at this
  | x :: l, y :: m, hl, hm', hm => by
    have hl' := List.pairwise_cons.1 hl
    have hm'' := List.pairwise_cons.1 hm'
    have e : x = y := by
      rcases List.mem_cons.1 ((hm x).1 (by simp)) with e | e
      · exact e
      · rcases List.mem_cons.1 ((hm y).2 (by simp)) with e2 | e2
        · exact e2.symm
        · have h1 := hm''.1 x e
          have h2 := hl'.1 y e2
          have := h.tr _ _ _ h1 h2
          rw [h.irr] at this; omega
    subst e
    congr 1
    refine h.uniq hl'.2 hm''.2 fun z => ?_
    have hz := hm z
    simp only [List.mem_cons] at hz
    constructor
    · intro hzl
      rcases hz.1 (.inr hzl) with e | e
      · subst e; have := hl'.1 _ hzl; rw [h.irr] at this; omega
      · exact e
    · intro hzl
      rcases hz.2 (.inr hzl) with e | e
      · subst e; have := hm''.1 _ hzl; rw [h.irr] at this; omega
      · exact e
theorem CmpT.rises {α : Type} [Inhabited α] {f : α → α → Int} (h : CmpT f) {d : Array α} (hs : SortedIn (ltOf f) 0 d.size d) (hn : d.toList.Nodup) : d.toList.Pairwise (fun x y => f x y < 0) := by
  rw [List.pairwise_iff_getElem]
  intro i j hi hj hij
  have h1 := hs i j (by omega) hij (by simpa using hj)
  have hi' : i < d.size := by simpa using hi
  have hj' : j < d.size := by simpa using hj
  have e1 : d[i]! = d[i] := getElem!_pos d i hi'
  have e2 : d[j]! = d[j] := getElem!_pos d j hj'
  rw [e1, e2] at h1
  simp only [ltOf, decide_eq_false_iff_not] at h1
  have hne : d[i] ≠ d[j] := by
    have := (List.nodup_iff_pairwise_ne.1 hn)
    rw [List.pairwise_iff_getElem] at this
    simpa using this i j hi hj hij
  have h2 : f d[i] d[j] ≠ 0 := fun e => hne ((h.z _ _).1 e)
  have h3 := h.neg (d[j]) (d[i])
  have h4 : ¬ 0 < f d[i] d[j] := fun e => h1 (h3.2 e)
  have : f d[i] d[j] < 0 := by omega
  simpa using this
def Bw (w w' : World) : Prop := Below w.heap.size w w' ∧ w.drawn ≤ w'.drawn
theorem Bw.grown {w w' : World} (h : Bw w w') : ∃ q os, w' = grow (w.drewN q) os := by
  obtain ⟨hb, hd⟩ := h
  refine ⟨w'.drawn - w.drawn, w'.heap.extract w.heap.size w'.heap.size, ?_⟩
  obtain ⟨hp, tp, dr, os, out⟩ := w
  obtain ⟨hp', tp', dr', os', out'⟩ := w'
  obtain ⟨b1, b2, b3, b4, b5⟩ := hb
  simp only at b1 b2 b3 b4 b5 hd
  subst b1; subst b2; subst b3
  simp only [grow, World.drewN, World.mk.injEq, and_true, true_and]
  refine ⟨?_, by omega⟩
  apply Array.ext_getElem?
  intro i
  rw [Array.getElem?_append]
  split
  · rename_i hi; exact b5 i hi
  · rename_i hi
    rw [Array.getElem?_extract]
    by_cases hi2 : i < hp'.size
    · rw [if_pos (by omega)]; congr 1; omega
    · rw [if_neg (by omega)]; exact Array.getElem?_eq_none (by omega)
end Go.Proofs.YtakmpmhjcngbbaaGreatDoor
