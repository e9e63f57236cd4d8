import Derived.Test.YtkhicohhahaahaaTri
import Derived.Lib.SlicesCompact
namespace Go.Proofs.Ytkhicohhahaahaa
open Go.ChangeShapes Go.WideShapes Go.ChangeAt Go.RowKit Go.Maps Go.Sort Go.Lib Go.Shelf
set_option linter.unusedVariables false
set_option linter.unusedSimpArgs false

def OnceOf (vs ts : List ByteArray) : Prop := ts.Pairwise (fun x y => cmpS x y < 0) ∧ ∀ s, s ∈ ts ↔ s ∈ vs
theorem OnceOf.uniq {vs us ts rs : List ByteArray} (h : OnceOf vs ts) (h' : OnceOf us rs) (e : ∀ s, s ∈ vs ↔ s ∈ us) : ts = rs :=
  CmpT.str.uniq h.1 h'.1 fun s => by rw [h.2, h'.2, e]

noncomputable def rV (l : List Lf) (p : List ByteArray) : Nat → List ByteArray
  | 0 => []
  | k + 1 => if yes ((gL l k).fl = false ∧ (gL l k).p = p) = true then rV l p k ++ [(gL l k).v] else rV l p k
theorem rV_len (l : List Lf) (p : List ByteArray) : ∀ k, (rV l p k).length ≤ k
  | 0 => by simp [rV]
  | k + 1 => by have := rV_len l p k; simp only [rV]; split <;> simp <;> omega
theorem rV_mem {l : List Lf} {p : List ByteArray} {s : ByteArray} : ∀ {k : Nat}, s ∈ rV l p k ↔ ∃ j, j < k ∧ (gL l j).fl = false ∧ (gL l j).p = p ∧ (gL l j).v = s
  | 0 => by simp [rV]
  | k + 1 => by
    have ih := rV_mem (l := l) (p := p) (s := s) (k := k)
    simp only [rV]
    by_cases e : (gL l k).fl = false ∧ (gL l k).p = p
    · rw [if_pos (yes_t e), List.mem_append, ih, List.mem_singleton]
      constructor
      · rintro (⟨j, hj, r⟩ | r)
        · exact ⟨j, by omega, r⟩
        · exact ⟨k, by omega, e.1, e.2, r.symm⟩
      · rintro ⟨j, hj, r1, r2, r3⟩
        by_cases ej : j = k
        · subst ej; exact .inr r3.symm
        · exact .inl ⟨j, by omega, r1, r2, r3⟩
    · rw [if_neg (by rw [yes_f e]; simp), ih]
      constructor
      · rintro ⟨j, hj, r⟩; exact ⟨j, by omega, r⟩
      · rintro ⟨j, hj, r1, r2, r3⟩
        by_cases ej : j = k
        · subst ej; exact absurd ⟨r1, r2⟩ e
        · exact ⟨j, by omega, r1, r2, r3⟩

theorem Mk_val {l : List Lf} {p : List Ky} {d : Dt} {s : ByteArray} : ∀ {k : Nat}, Dis l k → (Mk l k p d = some s ↔ ∃ j, j < k ∧ Way (gL l j) = p ∧ ((gL l j).r, (gL l j).q) = d ∧ (gL l j).v = s)
  | 0, _ => ⟨fun h => by simp [Mk] at h, fun ⟨j, hj, _⟩ => by omega⟩
  | k + 1, hd => by
    have ih := Mk_val (l := l) (p := p) (d := d) (s := s) (k := k) (fun i hi j hj => hd i (by omega) j hj)
    simp only [Mk]
    by_cases e : p = wayOf (gL l k).p (kd (gL l k).fl)
    · rw [e, updM_same, ← e]
      by_cases e2 : d = ((gL l k).r, (gL l k).q)
      · rw [e2, updF_same]
        constructor
        · intro h; injection h with h; exact ⟨k, by omega, e.symm, rfl, h⟩
        · rintro ⟨j, hj, r1, r2, r3⟩
          by_cases ej : j = k
          · subst ej; rw [r3]
          · have := hd k (by omega) j (by omega)
            exact absurd ⟨congrArg Prod.fst r2, congrArg Prod.snd r2⟩ this
      · rw [updF_other _ _ e2, ih]
        constructor
        · rintro ⟨j, hj, r⟩; exact ⟨j, by omega, r⟩
        · rintro ⟨j, hj, r1, r2, r3⟩
          by_cases ej : j = k
          · subst ej; exact absurd r2.symm e2
          · exact ⟨j, by omega, r1, r2, r3⟩
    · rw [updM_other _ _ _ e, ih]
      constructor
      · rintro ⟨j, hj, r⟩; exact ⟨j, by omega, r⟩
      · rintro ⟨j, hj, r1, r2, r3⟩
        by_cases ej : j = k
        · subst ej; exact absurd r1.symm e
        · exact ⟨j, by omega, r1, r2, r3⟩
theorem reg_way {l : List Lf} {p : List ByteArray} {s : ByteArray} (hp : PthOk p) (hd : Dis l l.length) : (∃ d, Mk l l.length (wayOf p 1) d = some s) ↔ s ∈ rV l p l.length := by
  rw [rV_mem]
  constructor
  · rintro ⟨d, hd'⟩
    obtain ⟨j, hj, e, _, e3⟩ := (Mk_val hd).1 hd'
    obtain ⟨e1, e2⟩ := wayOf_inj e.symm (by have := hp.1; omega)
    refine ⟨j, hj, ?_, e1.symm, e3⟩
    cases hf : (gL l j).fl with
    | false => rfl
    | true => rw [hf] at e2; cases e2
  · rintro ⟨j, hj, e1, e2, e3⟩
    refine ⟨((gL l j).r, (gL l j).q), (Mk_val hd).2 ⟨j, hj, ?_, rfl, e3⟩⟩
    unfold Way; rw [e1, e2]; rfl

theorem once_in {ts : List ByteArray} {s : ByteArray} {k : Nat} (h : ts.Pairwise (fun x y => cmpS x y < 0)) (hk : k ≤ ts.length) (h1 : ∀ i, i < k → cmpS (gS ts i) s < 0) (h2 : k < ts.length → 0 < cmpS (gS ts k) s) :
    (ts.take k ++ [s] ++ ts.drop k).Pairwise (fun x y => cmpS x y < 0) := by
  have hs : ∀ x ∈ ts.drop k, cmpS s x < 0 := fun x hx => by
    obtain ⟨i, hi, e⟩ := List.getElem_of_mem hx
    simp only [List.length_drop] at hi
    have hkl : k < ts.length := by omega
    have g0 := h2 hkl
    have g1 : cmpS s (gS ts k) < 0 := (CmpT.str.neg s (gS ts k)).2 g0
    have ex : x = gS ts (k + i) := by rw [← e]; simp [gS, List.getD, show k + i < ts.length by omega]
    by_cases hi0 : i = 0
    · subst hi0; rw [ex]; exact g1
    · have g2 : cmpS (gS ts k) (gS ts (k + i)) < 0 := by
        have := List.pairwise_iff_getElem.1 h k (k + i) (by omega) (by omega) (by omega)
        simpa [gS, List.getD, show k < ts.length by omega, show k + i < ts.length by omega] using this
      rw [ex]; exact CmpT.str.tr _ _ _ g1 g2
  have ht : ∀ x ∈ ts.take k, cmpS x s < 0 := fun x hx => by
    obtain ⟨i, hi, e⟩ := List.getElem_of_mem hx
    simp only [List.length_take] at hi
    have ex : x = gS ts i := by rw [← e]; simp [gS, List.getD, show i < ts.length by omega]
    rw [ex]; exact h1 i (by omega)
  have hsp := List.take_append_drop k ts
  rw [← hsp] at h
  obtain ⟨p1, p2, p3⟩ := List.pairwise_append.1 h
  refine List.pairwise_append.2 ⟨List.pairwise_append.2 ⟨p1, List.pairwise_singleton _ _, fun x hx y hy => by rw [List.mem_singleton] at hy; subst hy; exact ht x hx⟩, p2, fun x hx y hy => ?_⟩
  rcases List.mem_append.1 hx with hx | hx
  · exact p3 x hx y hy
  · rw [List.mem_singleton] at hx; subst hx; exact hs y hy
end Go.Proofs.Ytkhicohhahaahaa
