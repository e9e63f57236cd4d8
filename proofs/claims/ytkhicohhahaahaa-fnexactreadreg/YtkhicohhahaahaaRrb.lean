import Derived.Test.YtkhicohhahaahaaRra
namespace Go.Proofs.Ytkhicohhahaahaa
open Go.ChangeShapes Go.WideShapes Go.ChangeAt Go.RowKit Go.Maps Go.Sort Go.Lib Go.Shelf
set_option linter.unusedVariables false
set_option linter.unusedSimpArgs false

def bs (x : List UInt8) : ByteArray := ⟨x.toArray⟩
theorem bs_list (x : List UInt8) : (bs x).toList = x := by rw [ByteArray.toList_eq]; simp [bs]
theorem bs_inj {x y : List UInt8} (h : bs x = bs y) : x = y := by rw [← bs_list x, ← bs_list y, h]
theorem bs_of (s : ByteArray) : bs s.data.toList = s := by simp [bs]
theorem less_lt : ∀ (x y : List UInt8), Op.bytesLess x y = decide (x < y)
  | [], [] => by simp [Op.bytesLess]
  | _ :: _, [] => by simp [Op.bytesLess]
  | [], _ :: _ => by simp [Op.bytesLess]
  | a :: x, b :: y => by
    rw [Op.bytesLess, less_lt x y]
    simp only [List.cons_lt_cons_iff]
    by_cases h1 : a < b <;> by_cases h2 : a = b <;> by_cases h3 : x < y <;> simp [h1, h2, h3]
def cmpB (x y : List UInt8) : Int := cmpS (bs x) (bs y)
theorem CmpT.bytes : CmpT cmpB := CmpT.str.comap bs fun x y h => bs_inj h
theorem le_cmp {x y : List UInt8} : decide (x ≤ y) = true ↔ cmpB x y ≤ 0 := by
  have h1 : x ≤ y ↔ ¬ y < x := Iff.rfl
  rw [decide_eq_true_eq, h1]
  have h2 : cmpB y x < 0 ↔ y < x := by
    unfold cmpB; rw [cmpS_neg, bs_list, bs_list, less_lt, decide_eq_true_eq]
  rw [← h2]
  have h3 := CmpT.bytes.neg y x
  omega
theorem le_tr {x y z : List UInt8} (h : cmpB x y ≤ 0) (h' : cmpB y z ≤ 0) : cmpB x z ≤ 0 := by
  by_cases e : cmpB x y = 0
  · rw [(CmpT.bytes.z x y).1 e]; exact h'
  · by_cases e2 : cmpB y z = 0
    · rw [← (CmpT.bytes.z y z).1 e2]; exact h
    · have := CmpT.bytes.tr x y z (by omega) (by omega); omega
theorem sorted_merge (ss : List (List UInt8)) : (ss.mergeSort fun x y => decide (x ≤ y)).Pairwise (fun x y => cmpB x y ≤ 0) := by
  have := List.pairwise_mergeSort (le := fun x y : List UInt8 => decide (x ≤ y)) (fun x y z h1 h2 => by rw [le_cmp] at *; exact le_tr h1 h2) (fun x y => by
    rw [Bool.or_eq_true, le_cmp, le_cmp]
    have := CmpT.bytes.neg x y
    have := CmpT.bytes.neg y x
    omega) ss
  exact this.imp fun h => le_cmp.1 h
theorem compactUp_ok {d : Array (List UInt8)} (hs : ∀ i j, i < j → j < d.size → cmpB d[i]! d[j]! ≤ 0) : ∀ m, m ≤ d.size → (compactUpTo d m).Pairwise (fun x y => cmpB x y < 0) ∧ ∀ x, x ∈ compactUpTo d m ↔ ∃ j, j < m ∧ d[j]! = x
  | 0, _ => ⟨by simp [compactUpTo], fun x => by simp [compactUpTo]⟩
  | m + 1, hm => by
    obtain ⟨ih1, ih2⟩ := compactUp_ok hs m (by omega)
    rw [compactUpTo_succ]
    have mem : ∀ x, (∃ j, j < m + 1 ∧ d[j]! = x) ↔ x ∈ compactUpTo d m ∨ d[m]! = x := fun x => by
      rw [ih2]
      constructor
      · rintro ⟨j, hj, e⟩
        by_cases ej : j = m
        · subst ej; exact .inr e
        · exact .inl ⟨j, by omega, e⟩
      · rintro (⟨j, hj, e⟩ | e)
        · exact ⟨j, by omega, e⟩
        · exact ⟨m, by omega, e⟩
    by_cases hk : keeps d m = true
    · rw [if_pos hk]
      refine ⟨List.pairwise_append.2 ⟨ih1, List.pairwise_singleton _ _, fun x hx y hy => ?_⟩, fun x => ?_⟩
      · rw [List.mem_singleton] at hy
        subst hy
        obtain ⟨j, hj, rfl⟩ := (ih2 x).1 hx
        have h0 : m ≠ 0 := by omega
        have hne : d[m]! ≠ d[m - 1]! := by
          have := hk
          simp only [keeps, decide_eq_true_eq] at this
          rcases this with h | h
          · omega
          · exact h
        have h1 : cmpB d[m - 1]! d[m]! < 0 := by
          have a1 := hs (m - 1) m (by omega) (by omega)
          have a2 : cmpB d[m - 1]! d[m]! ≠ 0 := fun e => hne ((CmpT.bytes.z _ _).1 e).symm
          omega
        by_cases ej : j = m - 1
        · subst ej; exact h1
        · have a3 := hs j (m - 1) (by omega) (by omega)
          by_cases e0 : cmpB d[j]! d[m - 1]! = 0
          · rw [(CmpT.bytes.z _ _).1 e0]; exact h1
          · exact CmpT.bytes.tr _ _ _ (by omega) h1
      · rw [mem, List.mem_append, List.mem_singleton]
        exact ⟨fun h => h.imp id Eq.symm, fun h => h.imp id Eq.symm⟩
    · rw [if_neg hk]
      simp only [List.append_nil]
      refine ⟨ih1, fun x => ?_⟩
      rw [mem]
      refine ⟨.inl, fun h => h.elim id fun e => ?_⟩
      have hk' : ¬ (m = 0 ∨ d[m]! ≠ d[m - 1]!) := by simpa [keeps] using hk
      have h0 : m ≠ 0 := fun e => hk' (.inl e)
      have h1 : d[m]! = d[m - 1]! := by
        by_cases e : d[m]! = d[m - 1]!
        · exact e
        · exact absurd (.inr e) hk'
      exact (ih2 x).2 ⟨m - 1, by omega, by rw [← h1]; exact e⟩

theorem compact_once (vs : List ByteArray) : OnceOf vs ((compact ((vs.map fun s => s.data.toList).mergeSort fun x y => decide (x ≤ y))).map bs) := by
  have hsr := sorted_merge (vs.map fun s => s.data.toList)
  obtain ⟨zs, hz⟩ : ∃ zs, (vs.map fun s => s.data.toList).mergeSort (fun x y => decide (x ≤ y)) = zs := ⟨_, rfl⟩
  have hp : zs.Perm (vs.map fun s => s.data.toList) := by rw [← hz]; exact List.mergeSort_perm _ _
  rw [hz] at hsr ⊢
  have hidx : ∀ i j, i < j → j < zs.toArray.size → cmpB zs.toArray[i]! zs.toArray[j]! ≤ 0 := fun i j hij hj => by
    have hj' : j < zs.length := by simpa using hj
    rw [getElem!_pos _ i (by simp; omega), getElem!_pos _ j hj]
    simpa using List.pairwise_iff_getElem.1 hsr i j (by omega) hj' hij
  obtain ⟨h1, h2⟩ := compactUp_ok hidx zs.length (by simp)
  refine ⟨?_, fun s => ?_⟩
  · show ((compactUpTo zs.toArray zs.length).map bs).Pairwise _
    rw [List.pairwise_map]; exact h1
  · show s ∈ (compactUpTo zs.toArray zs.length).map bs ↔ _
    rw [List.mem_map]
    constructor
    · rintro ⟨x, hx, rfl⟩
      obtain ⟨j, hj, e⟩ := (h2 x).1 hx
      have hm : x ∈ zs := by rw [← e, getElem!_pos _ j (by simpa using hj)]; simp
      obtain ⟨t, ht, et⟩ := List.mem_map.1 (hp.mem_iff.1 hm)
      rw [← et, bs_of]; exact ht
    · intro hs
      have hm : s.data.toList ∈ zs := hp.mem_iff.2 (List.mem_map.2 ⟨s, hs, rfl⟩)
      obtain ⟨j, hj, e⟩ := List.getElem_of_mem hm
      refine ⟨s.data.toList, (h2 _).2 ⟨j, hj, ?_⟩, bs_of s⟩
      rw [getElem!_pos _ j (by simpa using hj)]; simpa using e
end Go.Proofs.Ytkhicohhahaahaa
