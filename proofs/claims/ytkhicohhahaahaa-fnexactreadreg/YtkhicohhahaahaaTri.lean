import Derived.Test.YtkhicohhahaahaaTrm
namespace Go.Proofs.Ytkhicohhahaahaa
open Go.ChangeShapes Go.WideShapes Go.ChangeAt Go.RowKit Go.Maps Go.Sort Go.Lib Go.Shelf
set_option linter.unusedVariables false
set_option linter.unusedSimpArgs false

set_option maxRecDepth 100000 in
theorem keyOf_key {v : Value} {kl : Lit} (h : keyOf Try.prog 91 v = some kl) : ∃ x, v = keyV x := by
  unfold keyOf at h
  rw [Try.underlying91] at h
  simp only [keyKT, Bool.true_and] at h
  have h0 : 0 < Try.prog.types.size := of_decide_eq_true (by kernel_rfl)
  obtain ⟨m, hm⟩ : ∃ m, Try.prog.types.size = m + 1 := ⟨Try.prog.types.size - 1, by omega⟩
  rw [hm] at h
  have e2 : Try.prog.cellsOf 91 = 2 := by kernel_rfl
  have ei : Try.prog.cellsOf 3 = 1 := by kernel_rfl
  have es : Try.prog.cellsOf 9 = 1 := by kernel_rfl
  cases v <;> simp [Value.formed, Try.underlying91, e2, Program.keyLits, Try.underlying3, Try.underlying9, ei, es, Value.cells] at h
  obtain ⟨hsz, a, ⟨hx1, h⟩, hx2⟩ := h
  clear hx1 hx2
  obtain ⟨c0, c1, rfl⟩ := array2' hsz
  clear hsz
  cases c0 <;> simp at h
  rename_i s
  by_cases hs : s.size ≤ maxLen
  · cases c1 <;> simp [hs] at h
    rename_i k n
    by_cases hk : k = .i64 ∧ (Lit.int .i64 n).wf = true
    · exact ⟨(s, n), by rw [hk.1]; rfl⟩
    · rw [if_neg hk] at h; simp at h
  · cases c1 <;> simp [hs] at h
set_option maxRecDepth 100000 in
theorem keyOf_dot {v : Value} {kl : Lit} (h : keyOf Try.prog 50 v = some kl) : ∃ x, v = dtV x := by
  unfold keyOf at h
  rw [Try.underlying50] at h
  simp only [dotKT, Bool.true_and] at h
  have h0 : 0 < Try.prog.types.size := of_decide_eq_true (by kernel_rfl)
  obtain ⟨m, hm⟩ : ∃ m, Try.prog.types.size = m + 1 := ⟨Try.prog.types.size - 1, by omega⟩
  rw [hm] at h
  have e2 : Try.prog.cellsOf 50 = 2 := by kernel_rfl
  have ei : Try.prog.cellsOf 3 = 1 := by kernel_rfl
  cases v <;> simp [Value.formed, Try.underlying50, e2, Program.keyLits, Try.underlying3, ei, Value.cells] at h
  obtain ⟨hsz, a, ⟨hx1, h⟩, hx2⟩ := h
  clear hx1 hx2
  obtain ⟨c0, c1, rfl⟩ := array2' hsz
  clear hsz
  cases c0 <;> simp at h
  rename_i k n
  by_cases hk : k = .i64 ∧ (Lit.int .i64 n).wf = true
  · rw [if_pos hk] at h
    cases c1 <;> simp at h
    rename_i k' n'
    by_cases hk' : k' = .i64 ∧ (Lit.int .i64 n').wf = true
    · exact ⟨(n, n'), by rw [hk.1, hk'.1]; rfl⟩
    · rw [if_neg hk'] at h; simp at h
  · rw [if_neg hk] at h; simp at h

structure CollF {α β : Type} (t : TypeId) (kv : α → Value) (f : α → Option β) (left : Lit → Bool) (ss : List α) : Prop where
  nd : ss.Nodup
  old : ∀ x ∈ ss, f x ≠ none ∧ ∀ kl, keyOf Try.prog t (kv x) = some kl → left kl = false
  all : ∀ x, f x ≠ none → x ∈ ss ∨ ∀ kl, keyOf Try.prog t (kv x) = some kl → left kl = true
def KeysF {α β : Type} (f : α → Option β) (ss : List α) : Prop := ss.Nodup ∧ ∀ x, x ∈ ss ↔ f x ≠ none
section
variable {α β : Type} {w : World} {t : TypeId} {kv : α → Value} {vo : Option β → Value} {b c : Nat} {f : α → Option β} {D : DataW Value} {left : Lit → Bool} {ss : List α}
theorem CollF.start (h : FM w t kv vo b c f D) : CollF t kv f (has D) ([] : List α) := by
  refine ⟨List.nodup_nil, fun x hx => absurd hx (by simp), fun x hx => Or.inr fun kl hk => ?_⟩
  rw [(h.at' x kl hk).1]
  cases e : f x with
  | none => exact absurd e hx
  | some y => rfl
set_option maxRecDepth 100000 in
theorem CollF.step (hC : CollF t kv f left ss) (h : FM w t kv vo b c f D) (K : Keyed Try.prog t) (hi : ∀ x y, kv x = kv y → x = y) {x : α} {kl : Lit} {y : DataW Value} (hk : keyOf Try.prog t (kv x) = some kl) (hl : left kl = true) (hat : ∀ zd, D.atKey kl zd = y) :
    CollF t kv f (fun z => left z && !z.sameKey kl) (ss ++ [x]) := by
  have hx : x ∉ ss := fun hm => by have := (hC.old x hm).2 kl hk; rw [hl] at this; cases this
  have hf : f x ≠ none := fun e => by
    have h1 := has_true_of_atKey hat
    rw [(h.at' x kl hk).1, e] at h1; cases h1
  refine ⟨?_, fun z hz => ?_, fun z hz => ?_⟩
  · rw [List.nodup_append]
    exact ⟨hC.nd, by simp, fun a ha b hb => by rw [List.mem_singleton] at hb; subst hb; exact fun e => hx (e ▸ ha)⟩
  · rcases List.mem_append.1 hz with hz | hz
    · refine ⟨(hC.old z hz).1, fun kl' hk' => ?_⟩
      show (left kl' && !kl'.sameKey kl) = false
      rw [(hC.old z hz).2 kl' hk']; rfl
    · rw [List.mem_singleton] at hz; subst hz
      refine ⟨hf, fun kl' hk' => ?_⟩
      rw [hk] at hk'; injection hk' with hk'; subst hk'
      show (left kl && !kl.sameKey kl) = false
      rw [WideAt.sameKey_self (K.key hk)]; simp
  · by_cases e : z = x
    · subst e; exact .inl (by simp)
    · rcases hC.all z hz with h1 | h1
      · exact .inl (List.mem_append.2 (.inl h1))
      · refine .inr fun kl' hk' => ?_
        show (left kl' && !kl'.sameKey kl) = true
        rw [h1 kl' hk', sameKey_ne (fun e2 => e (hi _ _ (by subst e2; exact K.inj hk' hk)))]; rfl
theorem CollF.done (hC : CollF t kv f left ss) (h : FM w t kv vo b c f D) (hl : ∀ kl, left kl = false) : KeysF f ss :=
  ⟨hC.nd, fun x => ⟨fun hx => (hC.old x hx).1, fun hx => by
    rcases hC.all x hx with h1 | h1
    · exact h1
    · obtain ⟨kl, hk⟩ := h.ok x hx
      have := h1 kl hk
      rw [hl kl] at this; cases this⟩⟩
end
end Go.Proofs.Ytkhicohhahaahaa
