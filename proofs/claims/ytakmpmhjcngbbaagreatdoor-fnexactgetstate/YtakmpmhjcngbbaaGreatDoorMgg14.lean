import Derived.Test.YtakmpmhjcngbbaaGreatDoorMgg13
import Derived.Lib.SlicesCompact
import Derived.Test.YtakmpmhjcngbbaaGreatDoorMgg02
import Derived.Lib.AppendStr
import Derived.Laws.IdiomStrings
set_option linter.unusedVariables false
set_option linter.unusedSimpArgs false
set_option maxRecDepth 100000
set_option maxHeartbeats 40000000
namespace Go.Proofs.YtakmpmhjcngbbaaGreatDoor
open Go.ChangeShapes Go.WideShapes Go.ChangeAt Go.RowKit Go.Maps Go.Sort Go.Lib Go.Shelf
theorem array2' {α : Type} {cs : Array α} (h : cs.size = 2) : ∃ c0 c1, cs = #[c0, c1] := by
  obtain ⟨l⟩ := cs
  match l, h with
  | [c0, c1], _ => exact ⟨c0, c1, rfl⟩
theorem keyOf_key {v : Value} {kl : Lit} (h : keyOf Tryz.prog 110 v = some kl) : ∃ x, v = keyV x := by
  unfold keyOf at h
  rw [Tryz.underlying110] at h
  simp only [keyKT, Bool.true_and] at h
  have h0 : 0 < Tryz.prog.types.size := of_decide_eq_true (by kernel_rfl)
  obtain ⟨m, hm⟩ : ∃ m, Tryz.prog.types.size = m + 1 := ⟨Tryz.prog.types.size - 1, by omega⟩
  rw [hm] at h
  have e2 : Tryz.prog.cellsOf 110 = 2 := by kernel_rfl
  have ei : Tryz.prog.cellsOf 3 = 1 := by kernel_rfl
  have es : Tryz.prog.cellsOf 9 = 1 := by kernel_rfl
  cases v <;> simp [Value.formed, Tryz.underlying110, e2, Program.keyLits, Tryz.underlying3, Tryz.underlying9, ei, es, Value.cells] at h
  obtain ⟨hsz, a, ⟨hx1, h⟩, hx2⟩ := h
  clear hx1 hx2
  obtain ⟨c0, c1, rfl⟩ := array2' hsz
  clear hsz
  cases c0 <;> simp at h
  rename_i s
  by_cases hs : s.size ≤ maxLen
  · cases c1 <;> simp [hs] at h
    rename_i k n
    by_cases hk : k = .i64 ∧ (Lit.int .i64 n).wf = true
    · exact ⟨(s, n), by rw [hk.1]; rfl⟩
    · rw [if_neg hk] at h; simp at h
  · cases c1 <;> simp [hs] at h
theorem keyOf_dot {v : Value} {kl : Lit} (h : keyOf Tryz.prog 87 v = some kl) : ∃ x, v = dtV x := by
  unfold keyOf at h
  rw [Tryz.underlying87] at h
  simp only [dotKT, Bool.true_and] at h
  have h0 : 0 < Tryz.prog.types.size := of_decide_eq_true (by kernel_rfl)
  obtain ⟨m, hm⟩ : ∃ m, Tryz.prog.types.size = m + 1 := ⟨Tryz.prog.types.size - 1, by omega⟩
  rw [hm] at h
  have e2 : Tryz.prog.cellsOf 87 = 2 := by kernel_rfl
  have ei : Tryz.prog.cellsOf 3 = 1 := by kernel_rfl
  cases v <;> simp [Value.formed, Tryz.underlying87, e2, Program.keyLits, Tryz.underlying3, ei, Value.cells] at h
  obtain ⟨hsz, a, ⟨hx1, h⟩, hx2⟩ := h
  clear hx1 hx2
  obtain ⟨c0, c1, rfl⟩ := array2' hsz
  clear hsz
  cases c0 <;> simp at h
  rename_i k n
  by_cases hk : k = .i64 ∧ (Lit.int .i64 n).wf = true
  · rw [if_pos hk] at h
    cases c1 <;> simp at h
    rename_i k' n'
    by_cases hk' : k' = .i64 ∧ (Lit.int .i64 n').wf = true
    · exact ⟨(n, n'), by rw [hk.1, hk'.1]; rfl⟩
    · rw [if_neg hk'] at h; simp at h
  · rw [if_neg hk] at h; simp at h
structure CollF {α β : Type} (t : TypeId) (kv : α → Value) (f : α → Option β) (left : Lit → Bool) (ss : List α) : Prop where
  nd : ss.Nodup
  old : ∀ x ∈ ss, f x ≠ none ∧ ∀ kl, keyOf Tryz.prog t (kv x) = some kl → left kl = false
  all : ∀ x, f x ≠ none → x ∈ ss ∨ ∀ kl, keyOf Tryz.prog t (kv x) = some kl → left kl = true
def KeysF {α β : Type} (f : α → Option β) (ss : List α) : Prop := ss.Nodup ∧ ∀ x, x ∈ ss ↔ f x ≠ none
section
variable {α β : Type} {w : World} {t : TypeId} {kv : α → Value} {vo : Option β → Value} {b c : Nat} {f : α → Option β} {D : DataW Value} {left : Lit → Bool} {ss : List α}
theorem CollF.start (h : FM w t kv vo b c f D) : CollF t kv f (has D) ([] : List α) := by
  refine ⟨List.nodup_nil, fun x hx => absurd hx (by simp), fun x hx => Or.inr fun kl hk => ?_⟩
  rw [(h.at' x kl hk).1]
  cases e : f x with
  | none => exact absurd e hx
  | some y => rfl
theorem CollF.step (hC : CollF t kv f left ss) (h : FM w t kv vo b c f D) (K : Keyed Tryz.prog t) (hi : ∀ x y, kv x = kv y → x = y) {x : α} {kl : Lit} {y : DataW Value} (hk : keyOf Tryz.prog t (kv x) = some kl) (hl : left kl = true) (hat : ∀ zd, D.atKey kl zd = y) :
    CollF t kv f (fun z => left z && !z.sameKey kl) (ss ++ [x]) := by
  have hx : x ∉ ss := fun hm => by have := (hC.old x hm).2 kl hk; rw [hl] at this; cases this
  have hf : f x ≠ none := fun e => by
    have h1 := has_true_of_atKey hat
    rw [(h.at' x kl hk).1, e] at h1; cases h1
  refine ⟨?_, fun z hz => ?_, fun z hz => ?_⟩
  · rw [List.nodup_append]
    exact ⟨hC.nd, by simp, fun a ha b hb => by rw [List.mem_singleton] at hb; subst hb; exact fun e => hx (e ▸ ha)⟩
  · rcases List.mem_append.1 hz with hz | hz
    · refine ⟨(hC.old z hz).1, fun kl' hk' => ?_⟩
      show (left kl' && !kl'.sameKey kl) = false
      rw [(hC.old z hz).2 kl' hk']; rfl
    · rw [List.mem_singleton] at hz; subst hz
      refine ⟨hf, fun kl' hk' => ?_⟩
      rw [hk] at hk'; injection hk' with hk'; subst hk'
      show (left kl && !kl.sameKey kl) = false
      rw [WideAt.sameKey_self (K.key hk)]; simp
  · by_cases e : z = x
    · subst e; exact .inl (by simp)
    · rcases hC.all z hz with h1 | h1
      · exact .inl (List.mem_append.2 (.inl h1))
      · refine .inr fun kl' hk' => ?_
        show (left kl' && !kl'.sameKey kl) = true
        rw [h1 kl' hk', sameKey_ne (fun e2 => e (hi _ _ (by subst e2; exact K.inj hk' hk)))]; rfl
theorem CollF.done (hC : CollF t kv f left ss) (h : FM w t kv vo b c f D) (hl : ∀ kl, left kl = false) : KeysF f ss :=
  ⟨hC.nd, fun x => ⟨fun hx => (hC.old x hx).1, fun hx => by
    rcases hC.all x hx with h1 | h1
    · exact h1
    · obtain ⟨kl, hk⟩ := h.ok x hx
      have := h1 kl hk
      rw [hl kl] at this; cases this⟩⟩
end
theorem cmpP_sym : ∀ p q : List ByteArray, cmpP p q < 0 ↔ 0 < cmpP q p
  | [], [] => by simp [cmpP]
  | [], _ :: _ => by simp [cmpP]
  | _ :: _, [] => by simp [cmpP]
  | s :: p, t :: q => by
    simp only [cmpP]
    by_cases e : cmpS s t = 0
    · have e' : cmpS t s = 0 := cmpS_z.2 (cmpS_z.1 e).symm
      rw [if_pos e, if_pos e']; exact cmpP_sym p q
    · have e' : cmpS t s ≠ 0 := fun h => e (cmpS_z.2 (cmpS_z.1 h).symm)
      rw [if_neg e, if_neg e']; exact CmpT.str.neg s t
theorem cmpP_tr : ∀ p q r : List ByteArray, cmpP p q < 0 → cmpP q r < 0 → cmpP p r < 0
  | [], [], _, h, _ => by simp [cmpP] at h
  | [], _ :: _, [], _, h => by simp [cmpP] at h
  | [], _ :: _, _ :: _, _, _ => by simp [cmpP]
  | _ :: _, [], _, h, _ => by simp [cmpP] at h
  | _ :: _, _ :: _, [], _, h => by simp [cmpP] at h
  | s :: p, t :: q, u :: r, h, h' => by
    simp only [cmpP] at *
    by_cases e : cmpS s t = 0
    · rw [if_pos e] at h
      have := cmpS_z.1 e; subst this
      by_cases e2 : cmpS s u = 0
      · rw [if_pos e2] at h' ⊢; exact cmpP_tr p q r h h'
      · rw [if_neg e2] at h' ⊢; exact h'
    · rw [if_neg e] at h
      by_cases e2 : cmpS t u = 0
      · have := cmpS_z.1 e2; subst this
        rw [if_neg e]; exact h
      · rw [if_neg e2] at h'
        have h3 := CmpT.str.tr s t u h h'
        rw [if_neg (by omega)]; exact h3
theorem CmpT.path : CmpT cmpP := ⟨fun _ _ => cmpP_z, cmpP_sym, cmpP_tr⟩
theorem cmpL_tr {x y z : Lf} (h : cmpL x y < 0) (h' : cmpL y z < 0) : cmpL x z < 0 :=
  (CmpT.path.pair (CmpT.int.pair CmpT.dot)).tr (x.p, (kd x.fl, (x.r, x.q))) (y.p, (kd y.fl, (y.r, y.q))) (z.p, (kd z.fl, (z.r, z.q))) h h'
theorem LvOk.lt {R F T : Nat → Int} {n : Nat} {l : List Lf} {k : Nat} (h : LvOk R F T n l k) {i : Nat} : ∀ j, i < j → j < k → cmpL (gL l i) (gL l j) < 0
  | 0, h1, _ => by omega
  | j + 1, h1, h2 => by
    have hj := (h (j + 1) h2).2.2 (by omega)
    simp only [Nat.add_sub_cancel] at hj
    by_cases e : i = j
    · subst e; exact hj
    · exact cmpL_tr (h.lt j (by omega) (by omega)) hj
theorem wayOf3 (p : List ByteArray) : wayOf p 3 = (List.range p.length).map fun i => (gS p i, 3) := by
  unfold wayOf; congr 1; funext i; split <;> rfl
theorem gS_take {p q : List ByteArray} (h : p <+: q) {i : Nat} (hi : i < p.length) : gS q i = gS p i := by
  obtain ⟨r, rfl⟩ := h
  simp [gS, List.getD, List.getElem?_append, hi]
theorem way_take {p q : List ByteArray} {k : Int} (h : p <+: q) (hl : p.length < q.length) : (wayOf q k).take p.length = wayOf p 3 := by
  apply List.ext_getElem?
  intro i
  by_cases hi : i < p.length
  · rw [List.getElem?_take_of_lt hi, wayOf_get (by omega), wayOf3, if_pos (by omega), gS_take h hi]
    simp [hi]
  · rw [List.getElem?_take_eq_none (by omega), List.getElem?_eq_none (by rw [wayOf_len]; omega)]
noncomputable def nx (p : List ByteArray) (x : Lf) : Option Ky := if yes (p <+: x.p ∧ p.length < x.p.length) = true then some (onWay x.p (kd x.fl) p.length) else none
theorem nx_iff {p : List ByteArray} {x : Lf} {y : Ky} : wayOf p 3 ++ [y] <+: Way x ↔ nx p x = some y := by
  unfold nx Way
  constructor
  · intro h
    have hlen : p.length + 1 ≤ x.p.length := by have := h.length_le; simpa [wayOf_len] using this
    have ht := List.prefix_iff_eq_take.1 h
    simp only [List.length_append, wayOf_len, List.length_cons, List.length_nil] at ht
    rw [wayOf_take (by omega)] at ht
    have h1 := List.append_inj' ht rfl
    have hp : p <+: x.p := by
      have e1 : p = x.p.take p.length := by
        refine gS_ext (by simp; omega) fun i hi => ?_
        have := congrArg (fun l => l[i]?) h1.1
        rw [List.getElem?_take_of_lt hi, wayOf_get hi, wayOf_get (k := kd x.fl) (show i < x.p.length by omega)] at this
        injection this with this
        rw [(Prod.mk.inj this).1]
        simp [gS, List.getD, List.getElem?_take_of_lt hi]
      rw [e1]; exact List.take_prefix _ _
    rw [if_pos (yes_t ⟨hp, by omega⟩)]
    have h2 := h1.2
    simp only [List.cons.injEq, and_true] at h2
    rw [h2]; rfl
  · intro h
    by_cases e : p <+: x.p ∧ p.length < x.p.length
    · rw [if_pos (yes_t e)] at h
      injection h with h
      have := wayOf_take (k := kd x.fl) e.2
      rw [way_take e.1 e.2] at this
      have h3 : (gS x.p p.length, if p.length + 1 < x.p.length then 3 else kd x.fl) = y := h
      rw [h3] at this
      rw [← this]; exact List.take_prefix _ _
    · rw [yes_f e] at h; simp at h
theorem cmpP_app : ∀ (p a b : List ByteArray), cmpP (p ++ a) (p ++ b) = cmpP a b
  | [], _, _ => rfl
  | s :: p, a, b => by
    simp only [List.cons_append, cmpP]
    rw [if_pos (cmpS_z.2 rfl)]; exact cmpP_app p a b
theorem nx_order {p : List ByteArray} {a b : Lf} {y z : Ky} (h : cmpL a b < 0) (ha : nx p a = some y) (hb : nx p b = some z) : cmpK y z ≤ 0 := by
  unfold nx at ha hb
  by_cases e1 : p <+: a.p ∧ p.length < a.p.length
  · by_cases e2 : p <+: b.p ∧ p.length < b.p.length
    · rw [if_pos (yes_t e1)] at ha
      rw [if_pos (yes_t e2)] at hb
      injection ha with ha; injection hb with hb
      obtain ⟨⟨ra, hra⟩, hla⟩ := e1
      obtain ⟨⟨rb, hrb⟩, hlb⟩ := e2
      cases ra with
      | nil => rw [← hra] at hla; simp at hla
      | cons s ra =>
        cases rb with
        | nil => rw [← hrb] at hlb; simp at hlb
        | cons t rb =>
          have ya : y = (s, if ra = [] then kd a.fl else 3) := by
            rw [← ha]; unfold onWay; rw [← hra]
            have e3 : gS (p ++ s :: ra) p.length = s := by simp [gS, List.getD]
            rw [e3]
            cases ra <;> simp
          have zb : z = (t, if rb = [] then kd b.fl else 3) := by
            rw [← hb]; unfold onWay; rw [← hrb]
            have e3 : gS (p ++ t :: rb) p.length = t := by simp [gS, List.getD]
            rw [e3]
            cases rb <;> simp
          unfold cmpL at h
          rw [← hra, ← hrb, cmpP_app] at h
          rw [ya, zb]
          unfold cmpK
          simp only [cmpP] at h
          by_cases e4 : cmpS s t = 0
          · rw [if_pos e4] at h
            simp only [orI, e4, if_true]
            have kb : kd b.fl ≤ 3 := by cases b.fl <;> decide
            have ka : kd a.fl ≤ 3 := by cases a.fl <;> decide
            cases ra with
            | nil =>
              cases rb with
              | nil =>
                simp only [if_true]
                simp only [cmpP, orI, if_true] at h
                by_cases e5 : cmpI (kd a.fl) (kd b.fl) = 0
                · omega
                · rw [if_neg e5] at h; omega
              | cons u rb =>
                simp only [if_true, reduceCtorEq, if_false]
                unfold cmpI; split
                · omega
                · split <;> omega
            | cons u ra =>
              cases rb with
              | nil => simp [cmpP, orI] at h
              | cons v rb => simp [cmpI]
          · rw [if_neg e4] at h
            simp only [orI, e4, if_false] at h ⊢
            omega
    · rw [yes_f e2] at hb; simp at hb
  · rw [yes_f e1] at ha; simp at ha
noncomputable def kS (l : List Lf) (p : List ByteArray) : Nat → List Ky
  | 0 => []
  | k + 1 => match nx p (gL l k) with
    | none => kS l p k
    | some y => if yes ((kS l p k).getLast? = some y) = true then kS l p k else kS l p k ++ [y]
theorem kS_none {l : List Lf} {p : List ByteArray} {k : Nat} (h : nx p (gL l k) = none) : kS l p (k + 1) = kS l p k := by simp only [kS, h]
theorem kS_some {l : List Lf} {p : List ByteArray} {k : Nat} {y : Ky} (h : nx p (gL l k) = some y) : kS l p (k + 1) = if yes ((kS l p k).getLast? = some y) = true then kS l p k else kS l p k ++ [y] := by simp only [kS, h]
theorem kS_len (l : List Lf) (p : List ByteArray) : ∀ k, (kS l p k).length ≤ k
  | 0 => by simp [kS]
  | k + 1 => by
    have ih := kS_len l p k
    cases h : nx p (gL l k) with
    | none => rw [kS_none h]; omega
    | some y => rw [kS_some h]; split <;> simp <;> omega
theorem kS_ok {R F T : Nat → Int} {n : Nat} {l : List Lf} (p : List ByteArray) (h : LvOk R F T n l l.length) : ∀ k, k ≤ l.length → (kS l p k).Pairwise (fun x y => cmpK x y < 0) ∧ ∀ y, y ∈ kS l p k ↔ ∃ j, j < k ∧ nx p (gL l j) = some y
  | 0, _ => ⟨List.Pairwise.nil, fun y => by simp [kS]⟩
  | k + 1, hk => by
    obtain ⟨ih1, ih2⟩ := kS_ok p h k (by omega)
    have mem : ∀ y, (∃ j, j < k + 1 ∧ nx p (gL l j) = some y) ↔ y ∈ kS l p k ∨ nx p (gL l k) = some y := fun y => by
      rw [ih2]
      constructor
      · rintro ⟨j, hj, e⟩
        by_cases ej : j = k
        · subst ej; exact .inr e
        · exact .inl ⟨j, by omega, e⟩
      · rintro (⟨j, hj, e⟩ | e)
        · exact ⟨j, by omega, e⟩
        · exact ⟨k, by omega, e⟩
    cases hn : nx p (gL l k) with
    | none =>
      rw [kS_none hn]
      refine ⟨ih1, fun y => ?_⟩
      rw [mem y, hn]; simp
    | some z =>
      have le : ∀ y ∈ kS l p k, cmpK y z ≤ 0 := fun y hy => by
        obtain ⟨j, hj, e⟩ := (ih2 y).1 hy
        exact nx_order (h.lt k hj (by omega)) e hn
      rw [kS_some hn]
      by_cases e : (kS l p k).getLast? = some z
      · rw [if_pos (yes_t e)]
        refine ⟨ih1, fun y => ?_⟩
        rw [mem y, hn]
        constructor
        · exact .inl
        · rintro (h1 | h1)
          · exact h1
          · injection h1 with h1; subst h1; exact List.mem_of_getLast? e
      · rw [if_neg (by rw [yes_f e]; simp)]
        have hz : z ∉ kS l p k := fun hz => by
          obtain ⟨ys, u, hu⟩ : ∃ ys u, kS l p k = ys ++ [u] := by
            refine ⟨(kS l p k).dropLast, (kS l p k).getLast (List.ne_nil_of_mem hz), (List.dropLast_concat_getLast _).symm⟩
          rw [hu] at hz le e ih1
          simp at e
          rcases List.mem_append.1 hz with h1 | h1
          · have h2 := (List.pairwise_append.1 ih1).2.2 z h1 u (by simp)
            have h3 := le u (by simp)
            have h4 := CmpT.key.neg z u
            have : 0 < cmpK u z := h4.1 h2
            omega
          · simp at h1; exact e h1.symm
        refine ⟨List.pairwise_append.2 ⟨ih1, List.pairwise_singleton _ _, fun x hx y hy => ?_⟩, fun y => ?_⟩
        · simp at hy; subst hy
          have h1 := le x hx
          have h2 : cmpK x y ≠ 0 := fun e => hz ((CmpT.key.z x y).1 e ▸ hx)
          omega
        · rw [mem y, hn]
          simp only [List.mem_append, List.mem_singleton, Option.some.injEq]
          exact ⟨fun h => h.imp id Eq.symm, fun h => h.imp id Eq.symm⟩
theorem kS_tree {R F T : Nat → Int} {n : Nat} {l : List Lf} {N : List Ky → Option (Nat × Nat)} {p : List ByteArray} {ts : List Ky} (h : LvOk R F T n l l.length) (hI : NkI l l.length N) (h1 : ts.Pairwise (fun x y => cmpK x y < 0)) (h2 : ∀ x, x ∈ ts ↔ N (wayOf p 3 ++ [x]) ≠ none) : ts = kS l p l.length := by
  obtain ⟨k1, k2⟩ := kS_ok p h l.length (Nat.le_refl _)
  refine CmpT.key.uniq h1 k1 fun x => ?_
  rw [h2, k2]
  have := hI (wayOf p 3 ++ [x])
  rw [Option.isSome_iff_ne_none] at this
  rw [this]
  simp only [List.append_eq_nil_iff, List.cons_ne_self, and_false, false_or, reduceCtorEq]
  constructor
  · rintro ⟨j, hj, e⟩; exact ⟨j, hj, nx_iff.1 e⟩
  · rintro ⟨j, hj, e⟩; exact ⟨j, hj, nx_iff.2 e⟩
noncomputable def rV (l : List Lf) (p : List ByteArray) : Nat → List ByteArray
  | 0 => []
  | k + 1 => if yes ((gL l k).fl = false ∧ (gL l k).p = p) = true then rV l p k ++ [(gL l k).v] else rV l p k
theorem rV_mem {l : List Lf} {p : List ByteArray} {s : ByteArray} : ∀ {k : Nat}, s ∈ rV l p k ↔ ∃ j, j < k ∧ (gL l j).fl = false ∧ (gL l j).p = p ∧ (gL l j).v = s
  | 0 => by simp [rV]
  | k + 1 => by
    have ih := rV_mem (l := l) (p := p) (s := s) (k := k)
    simp only [rV]
    by_cases e : (gL l k).fl = false ∧ (gL l k).p = p
    · rw [if_pos (yes_t e), List.mem_append, ih, List.mem_singleton]
      constructor
      · rintro (⟨j, hj, r⟩ | r)
        · exact ⟨j, by omega, r⟩
        · exact ⟨k, by omega, e.1, e.2, r.symm⟩
      · rintro ⟨j, hj, r1, r2, r3⟩
        by_cases ej : j = k
        · subst ej; exact .inr r3.symm
        · exact .inl ⟨j, by omega, r1, r2, r3⟩
    · rw [if_neg (by rw [yes_f e]; simp), ih]
      constructor
      · rintro ⟨j, hj, r⟩; exact ⟨j, by omega, r⟩
      · rintro ⟨j, hj, r1, r2, r3⟩
        by_cases ej : j = k
        · subst ej; exact absurd ⟨r1, r2⟩ e
        · exact ⟨j, by omega, r1, r2, r3⟩
theorem Mk_val {l : List Lf} {p : List Ky} {d : Dt} {s : ByteArray} : ∀ {k : Nat}, Dis l k → (Mk l k p d = some s ↔ ∃ j, j < k ∧ Way (gL l j) = p ∧ ((gL l j).r, (gL l j).q) = d ∧ (gL l j).v = s)
  | 0, _ => ⟨fun h => by simp [Mk] at h, fun ⟨j, hj, _⟩ => by omega⟩
  | k + 1, hd => by
    have ih := Mk_val (l := l) (p := p) (d := d) (s := s) (k := k) (fun i hi j hj => hd i (by omega) j hj)
    simp only [Mk]
    by_cases e : p = wayOf (gL l k).p (kd (gL l k).fl)
    · rw [e, updM_same, ← e]
      by_cases e2 : d = ((gL l k).r, (gL l k).q)
      · rw [e2, updF_same]
        constructor
        · intro h; injection h with h; exact ⟨k, by omega, e.symm, rfl, h⟩
        · rintro ⟨j, hj, r1, r2, r3⟩
          by_cases ej : j = k
          · subst ej; rw [r3]
          · have := hd k (by omega) j (by omega)
            exact absurd ⟨congrArg Prod.fst r2, congrArg Prod.snd r2⟩ this
      · rw [updF_other _ _ e2, ih]
        constructor
        · rintro ⟨j, hj, r⟩; exact ⟨j, by omega, r⟩
        · rintro ⟨j, hj, r1, r2, r3⟩
          by_cases ej : j = k
          · subst ej; exact absurd r2.symm e2
          · exact ⟨j, by omega, r1, r2, r3⟩
    · rw [updM_other _ _ _ e, ih]
      constructor
      · rintro ⟨j, hj, r⟩; exact ⟨j, by omega, r⟩
      · rintro ⟨j, hj, r1, r2, r3⟩
        by_cases ej : j = k
        · subst ej; exact absurd r1.symm e
        · exact ⟨j, by omega, r1, r2, r3⟩
end Go.Proofs.YtakmpmhjcngbbaaGreatDoor
namespace Go.Proofs.YtakmpmhjcngbbaaGreatDoor
open Go.ChangeShapes Go.WideShapes Go.ChangeAt Go.RowKit
def strInts (s : ByteArray) : List Int := s.data.toList.map fun b => (b.toNat : Int)
theorem strInts_length (s : ByteArray) : (strInts s).length = s.size := by
  rw [strInts, List.length_map, Array.length_toList]; rfl
theorem strInts_cells (s : ByteArray) : (strInts s).map (Value.int .u8) = Lib.strCells s := by
  simp [strInts, Lib.strCells, List.map_map, Function.comp_def]
theorem strInts_byte (s : ByteArray) : ∀ z ∈ strInts s, 0 ≤ z ∧ z < 256 := by
  intro z hz
  simp only [strInts, List.mem_map] at hz
  obtain ⟨b, _, rfl⟩ := hz
  have := b.toNat_lt
  omega
theorem bytesOfStr (s : ByteArray) (w : World) : ∃ cap w', (convert 9 22 (.string s)).run Tryz.prog w = .ok (.slice (some ⟨w.heap.size, 0, none⟩) s.size cap) w' ∧ Below w.heap.size w w' ∧ w.heap.size < w'.heap.size ∧
    ∀ j u, (Lib.strCells s)[j]? = some u → w'.cell? ((⟨w.heap.size, 0, none⟩ : Addr).add j) = some u := by
  refine ⟨_, _, run_bytes_of_string (P := Tryz.prog) w 9 22 5 s Tryz.underlying9 Tryz.underlying22 Tryz.underlying5, ?_, ?_, ?_⟩
  · exact (Below.refl _ _).drew.alloc (Nat.le_refl _) _
  · simp
  · intro j u hj
    have hlt : j < s.size := by
      have := (List.getElem?_eq_some_iff.1 hj).1
      rw [Lib.strCells_length] at this; exact this
    have hc : ∀ (C : Array Value) (fr : Nat × Nat), (w.drew.alloc (.cells C 5 fr)).cell? ⟨w.heap.size, j, none⟩ = C[j]? := by
      intro C fr
      exact cell_of_row _ _ _ _ _ _ (heap_alloc_new w.drew _)
    have e : ((⟨w.heap.size, 0, none⟩ : Addr).add j) = ⟨w.heap.size, j, none⟩ := by
      by_cases h0 : j = 0
      · subst h0; rfl
      · simp [Addr.add, h0]
    rw [e, hc]
    simp only [bytesRow]
    rw [Array.getElem?_append_left (by simp; exact hlt)]
    simp only [Lib.strCells] at hj
    rw [← hj]
    simp
def textInts (s : ByteArray) : List Int := uvF 9 s.size ++ strInts s
theorem specText (s : ByteArray) (w : World) (hs : s.size ≤ 1048576) :
    Calls Tryz.prog 68 #[.string s] w fun e w' => ∃ v, e = .returned v ∧ Own w' w.heap.size v (textInts s) ∧ Below w.heap.size w w' ∧ w.heap.size < w'.heap.size := by
  obtain ⟨i0, hi, hz0, hz1, hz2⟩ := info_parts Tryz.infoByte
  have HL := uvF_len 9 s.size
  go_enter Tryz.func68, Tryz.ntmps68
  go_wp2_with fail
  refine (specUv 9 s.size _ (Nat.le_refl _) (hid (by omega)) (by omega)).mono ?_
  rintro e w1 ⟨v1, rfl, o1, b1, z1⟩
  obtain ⟨cap, w2, hrun, b2, z2, hcs⟩ := bytesOfStr s w1
  have hd : w2.ownsRow w.heap.size 5 1 v1 (uvF 9 s.size).length ((uvF 9 s.size).map (Value.int .u8)) := o1.kept b2 (fun k hk => (o1.lt k hk).2)
  have hlt : ∀ k, v1.ownBlock = some k → w.heap.size ≤ k := fun k hk => (o1.lt k hk).1
  have HN := hid hcs
  have HT := hid hlt
  have hone := Lib.strCells_oneCell s
  have hlen := Lib.strCells_length s
  have HO := hid hone
  have HLN := hid hlen
  clear hcs o1 hone hlen hlt
  go_wp2_with (at_builtin; refine wpList_append_own _ rfl _ _ 22 rfl w.heap.size 5 i0 (.int .u8 0) 1 1 Tryz.underlying22 hi hz0 hz1 hz2 rfl (by decide) _ _ _ rfl hd ⟨w1.heap.size, 0, none⟩ s.size cap (Lib.strCells s) rfl (by rw [HLN.out]; omega) HN.out HO.out ?c3 ?c4 ?c5 ?_)
  case c3 => unfold maxLen; omega
  case c4 => omega
  case c5 => omega
  · intro v' w3 hown' hgr _
    have R : Own w3 w.heap.size v' (textInts s) := by
      unfold Own textInts
      rw [List.length_append, List.map_append, strInts_length, strInts_cells]
      exact hown'
    have RB : Below w.heap.size w w3 := (b1.trans (b2.mono (by omega))).grown hgr (by omega) HT.out
    have RZ := hgr.size
    clear hown' hgr hd HN HO HLN hrun
    go_wp2_with fail
    go_ret
    exact ⟨v', rfl, R, RB, by omega⟩
end Go.Proofs.YtakmpmhjcngbbaaGreatDoor
