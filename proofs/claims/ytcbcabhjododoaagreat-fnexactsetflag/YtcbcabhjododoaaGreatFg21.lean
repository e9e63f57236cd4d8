import Derived.Test.YtcbcabhjododoaaGreatFg19
import Derived.Test.YtcbcabhjododoaaGreatFg17
set_option linter.unusedVariables false
set_option linter.unusedSimpArgs false
set_option maxRecDepth 100000
set_option maxHeartbeats 40000000
namespace Go.Proofs.YtcbcabhjododoaaGreat
open Go.ChangeShapes Go.WideShapes Go.ChangeAt Go.RowKit
noncomputable def uL (l : List Lf) (p : List ByteArray) : Nat → List Lf
 | 0 => []
 | k + 1 => if yes (nx p (gL l k) ≠ none) = true then uL l p k ++ [gL l k] else uL l p k
noncomputable def wL (l : List Lf) : Nat → List ByteArray → List Lf
 | 0, _ => []
 | f + 1, p => (kS l p l.length).flatMap fun y => if y.2 = 3 then wL l f (p ++ [y.1]) else dsK l p y l.length
theorem dsK_uL (l : List Lf) (p : List ByteArray) (s : ByteArray) : ∀ k, dsK l p (s, 3) k = uL l (p ++ [s]) k
 | 0 => rfl
 | k + 1 => by
  have ih := dsK_uL l p s k
  by_cases h : nx p (gL l k) = some (s, 3)
  ·rw [dsK_yes h]; simp only [uL]; rw [if_pos (yes_t (nx_map.1 h)), ih]
  ·rw [dsK_no h]; simp only [uL]; rw [if_neg (by rw [yes_f (fun hh => h (nx_map.2 hh))]; simp), ih]
theorem flat_same {α β : Type} {f g : α → List β} : ∀ {ys : List α}, (∀ y ∈ ys, f y = g y) → ys.flatMap f = ys.flatMap g
 | [], _ => rfl
 | a :: r, h => by
  rw [List.flatMap_cons, List.flatMap_cons, h a (List.mem_cons_self), flat_same (fun y hy => h y (List.mem_cons_of_mem _ hy))]
theorem groups_uL {R F T : Nat → Int} {n : Nat} {l : List Lf} (p : List ByteArray) (h : LvOk R F T n l l.length) : ∀ k, k ≤ l.length → (kS l p k).flatMap (fun y => dsK l p y k) = uL l p k
 | 0, _ => rfl
 | k + 1, hk => by
  have ih := groups_uL p h k (by omega)
  cases e : nx p (gL l k) with
  | none =>
   rw [kS_none e]
   have : (kS l p k).flatMap (fun y => dsK l p y (k + 1)) = (kS l p k).flatMap (fun y => dsK l p y k) := flat_same fun y _ => dsK_no (by rw [e]; simp)
   rw [this, ih]
   simp only [uL]
   rw [if_neg (by rw [yes_f (fun hh => hh e)]; simp)]
  | some y =>
   have hu : uL l p (k + 1) = uL l p k ++ [gL l k] := by simp only [uL]; rw [if_pos (yes_t (by rw [e]; simp))]
   obtain ⟨k1, k2⟩ := kS_ok p h k (by omega)
   rw [hu, ← ih, kS_some e]
   by_cases hl : (kS l p k).getLast? = some y
   ·rw [if_pos (yes_t hl)]
    obtain ⟨ys, hys⟩ := List.getLast?_eq_some_iff.1 hl
    have hny : y ∉ ys := fun hm => by
     rw [hys] at k1
     have := (List.pairwise_append.1 k1).2.2 y hm y (List.mem_singleton.2 rfl)
     rw [CmpT.key.irr] at this; omega
    rw [hys, List.flatMap_append, List.flatMap_append]
    simp only [List.flatMap_cons, List.flatMap_nil, List.append_nil]
    rw [dsK_yes e, ← List.append_assoc]
    congr 2
    exact flat_same fun z hz => dsK_no (by rw [e]; simp; exact fun hh => hny (hh ▸ hz))
   ·rw [if_neg (by rw [yes_f hl]; simp)]
    have hny : y ∉ kS l p k := fun hm => by
     obtain ⟨ys, hys⟩ : ∃ ys, kS l p k = ys := ⟨_, rfl⟩
     rw [hys] at k1 hl hm
     rcases List.eq_nil_or_concat ys with h0 | ⟨zs, z, hz⟩
     ·rw [h0] at hm; cases hm
     ·rw [hz] at hl hm k1
      simp only [List.concat_eq_append] at hl hm k1
      have hzy : z ≠ y := fun hh => hl (by rw [hh]; simp)
      rcases List.mem_append.1 hm with h3 | h3
      ·have h4 := (List.pairwise_append.1 k1).2.2 y h3 z (List.mem_singleton.2 rfl)
       obtain ⟨j, hj, ej⟩ := (k2 z).1 (by rw [hys, hz]; simp)
       have h5 := nx_order (h.lt k hj (by omega)) ej e
       have h6 := (CmpT.key.neg y z).1 h4
       omega
      ·exact hzy (List.mem_singleton.1 h3).symm
    have hds : dsK l p y k = [] := by
     cases hd : dsK l p y k with
     | nil => rfl
     | cons x xs =>
      obtain ⟨j, hj, ej, _⟩ := dsK_mem.1 (show x ∈ dsK l p y k by rw [hd]; exact List.mem_cons_self)
      exact absurd ((k2 y).2 ⟨j, hj, ej⟩) hny
    rw [List.flatMap_append]
    simp only [List.flatMap_cons, List.flatMap_nil, List.append_nil]
    rw [dsK_yes e, hds, List.nil_append]
    congr 1
    exact flat_same fun z hz => dsK_no (by rw [e]; simp; exact fun hh => hny (hh ▸ hz))
theorem wL_uL {R F T : Nat → Int} {n : Nat} {l : List Lf} (h : LvOk R F T n l l.length) : ∀ f p, p.length + f = 8 → wL l f p = uL l p l.length
 | 0, p, hp => by
  have : ∀ k, k ≤ l.length → uL l p k = [] := fun k => by
   induction k with
   | zero => intro _; rfl
   | succ k ih =>
    intro hk
    simp only [uL]
    rw [if_neg (by
     rw [yes_f (fun hh => ?_)]
     ·simp
     ·have := (nx_ne.1 hh).2
      have := (h k (by omega)).1.1.2.1
      omega), ih (by omega)]
  exact (this _ (Nat.le_refl _)).symm
 | f + 1, p, hp => by
  rw [← groups_uL p h l.length (Nat.le_refl _)]
  show (kS l p l.length).flatMap _ = _
  refine flat_same fun y _ => ?_
  by_cases e3 : y.2 = 3
  ·rw [if_pos e3, wL_uL h f (p ++ [y.1]) (by rw [List.length_append]; simp; omega), ← dsK_uL]
   rw [show (y.1, (3 : Int)) = y by rw [← e3]]
  ·rw [if_neg e3]
theorem uL_all {R F T : Nat → Int} {n : Nat} {l : List Lf} (h : LvOk R F T n l l.length) : ∀ k, k ≤ l.length → uL l [] k = l.take k
 | 0, _ => by simp [uL]
 | k + 1, hk => by
  simp only [uL]
  rw [if_pos (yes_t (nx_ne.2 ⟨List.nil_prefix, by have := (h k (by omega)).1.1.1; simp; omega⟩)), uL_all h k (by omega), List.take_add_one]
  congr 1
  simp [gL, List.getD, show k < l.length by omega]
theorem wL_all {R F T : Nat → Int} {n : Nat} {l : List Lf} (h : LvOk R F T n l l.length) : wL l 8 [] = l := by
 rw [wL_uL h 8 [] rfl, uL_all h _ (Nat.le_refl _), List.take_length]
def lfK (x : Lf) : List ByteArray × Int × Dt := (x.p, kd x.fl, x.r, x.q)
theorem lfK_cmp : CmpT (fun x y : List ByteArray × Int × Dt => orI (cmpP x.1 y.1) (orI (cmpI x.2.1 y.2.1) (cmpDt x.2.2 y.2.2))) := CmpT.path.pair (CmpT.int.pair CmpT.dot)
theorem cmpL_neg (x y : Lf) : cmpL x y < 0 ↔ 0 < cmpL y x := lfK_cmp.neg (lfK x) (lfK y)
theorem cmpL_z (x y : Lf) : cmpL x y = 0 ↔ lfK x = lfK y := lfK_cmp.z (lfK x) (lfK y)
theorem lfK_way {x y : Lf} (h : lfK x = lfK y) : x.p = y.p ∧ x.fl = y.fl ∧ x.r = y.r ∧ x.q = y.q := by
 unfold lfK at h
 have h1 := congrArg Prod.fst h
 have h2 := congrArg (fun z => z.2.1) h
 have h3 := congrArg (fun z => z.2.2.1) h
 have h4 := congrArg (fun z => z.2.2.2) h
 exact ⟨h1, kd_inj h2, h3, h4⟩
noncomputable def insL (x : Lf) : List Lf → List Lf
 | [] => [x]
 | y :: r => if yes (cmpL y x < 0) = true then y :: insL x r else x :: y :: r
theorem insL_mem {x z : Lf} : ∀ {ls : List Lf}, z ∈ insL x ls ↔ z = x ∨ z ∈ ls
 | [] => by simp [insL]
 | y :: r => by
  have ih := insL_mem (x := x) (z := z) (ls := r)
  simp only [insL]
  split
  ·rw [List.mem_cons, ih, List.mem_cons]
   constructor
   ·rintro (h | h | h)
    ·exact .inr (.inl h)
    ·exact .inl h
    ·exact .inr (.inr h)
   ·rintro (h | h | h)
    ·exact .inr (.inl h)
    ·exact .inl h
    ·exact .inr (.inr h)
  ·rw [List.mem_cons]
theorem insL_len (x : Lf) : ∀ ls : List Lf, (insL x ls).length = ls.length + 1
 | [] => rfl
 | y :: r => by
  simp only [insL]
  split
  ·simp [insL_len x r]
  ·simp
theorem insL_sorted {x : Lf} : ∀ {ls : List Lf}, ls.Pairwise (fun a b => cmpL a b < 0) → (∀ y ∈ ls, lfK y ≠ lfK x) → (insL x ls).Pairwise (fun a b => cmpL a b < 0)
 | [], _, _ => by simp [insL]
 | y :: r, h, hne => by
  have hr := List.pairwise_cons.1 h
  have ih := insL_sorted hr.2 (fun z hz => hne z (List.mem_cons_of_mem _ hz))
  simp only [insL]
  by_cases hc : cmpL y x < 0
  ·rw [if_pos (yes_t hc)]
   refine List.pairwise_cons.2 ⟨fun z hz => ?_, ih⟩
   rcases insL_mem.1 hz with e | e
   ·rw [e]; exact hc
   ·exact hr.1 z e
  ·rw [if_neg (by rw [yes_f hc]; simp)]
   have h0 : cmpL y x ≠ 0 := fun e => hne y (List.mem_cons_self) ((cmpL_z y x).1 e)
   have h1 : cmpL x y < 0 := (cmpL_neg x y).2 (by omega)
   refine List.pairwise_cons.2 ⟨fun z hz => ?_, h⟩
   rcases List.mem_cons.1 hz with e | e
   ·rw [e]; exact h1
   ·exact cmpL_tr h1 (hr.1 z e)
noncomputable def putL (P : Lf → Prop) (ls : List Lf) (out : List Lf) : Nat → List Lf
 | 0 => out
 | k + 1 => if yes (P (gL ls k)) = true then insL (gL ls k) (putL P ls out k) else putL P ls out k
theorem putL_yes {P : Lf → Prop} {ls out : List Lf} {k : Nat} (h : P (gL ls k)) : putL P ls out (k + 1) = insL (gL ls k) (putL P ls out k) := by simp only [putL]; rw [if_pos (yes_t h)]
theorem putL_no {P : Lf → Prop} {ls out : List Lf} {k : Nat} (h : ¬ P (gL ls k)) : putL P ls out (k + 1) = putL P ls out k := by simp only [putL]; rw [if_neg (by rw [yes_f h]; simp)]
theorem putL_mem {P : Lf → Prop} {ls out : List Lf} {z : Lf} : ∀ {k : Nat}, z ∈ putL P ls out k ↔ z ∈ out ∨ ∃ j, j < k ∧ P (gL ls j) ∧ gL ls j = z
 | 0 => by simp [putL]
 | k + 1 => by
  have ih := putL_mem (P := P) (ls := ls) (out := out) (z := z) (k := k)
  by_cases h : P (gL ls k)
  ·rw [putL_yes h, insL_mem, ih]
   constructor
   ·rintro (e | e | ⟨j, h1, h2, h3⟩)
    ·exact .inr ⟨k, by omega, h, e.symm⟩
    ·exact .inl e
    ·exact .inr ⟨j, by omega, h2, h3⟩
   ·rintro (e | ⟨j, h1, h2, h3⟩)
    ·exact .inr (.inl e)
    ·by_cases ej : j = k
     ·subst ej; exact .inl h3.symm
     ·exact .inr (.inr ⟨j, by omega, h2, h3⟩)
  ·rw [putL_no h, ih]
   constructor
   ·rintro (e | ⟨j, h1, h2, h3⟩)
    ·exact .inl e
    ·exact .inr ⟨j, by omega, h2, h3⟩
   ·rintro (e | ⟨j, h1, h2, h3⟩)
    ·exact .inl e
    ·by_cases ej : j = k
     ·subst ej; exact absurd h2 h
     ·exact .inr ⟨j, by omega, h2, h3⟩
theorem putL_len {P : Lf → Prop} {ls out : List Lf} : ∀ k, (putL P ls out k).length ≤ out.length + k
 | 0 => by simp [putL]
 | k + 1 => by
  have ih := putL_len (P := P) (ls := ls) (out := out) k
  simp only [putL]
  split
  ·rw [insL_len]; omega
  ·omega
theorem putL_sorted {P : Lf → Prop} {ls out : List Lf} (ho : out.Pairwise (fun a b => cmpL a b < 0)) (hl : ∀ i j, i < j → j < ls.length → cmpL (gL ls i) (gL ls j) < 0) (hne : ∀ j, j < ls.length → P (gL ls j) → ∀ y ∈ out, lfK y ≠ lfK (gL ls j)) : ∀ k, k ≤ ls.length → (putL P ls out k).Pairwise (fun a b => cmpL a b < 0)
 | 0, _ => ho
 | k + 1, hk => by
  have ih := putL_sorted ho hl hne k (by omega)
  by_cases h : P (gL ls k)
  ·rw [putL_yes h]
   refine insL_sorted ih (fun y hy => ?_)
   rcases putL_mem.1 hy with e | ⟨j, h1, h2, h3⟩
   ·exact hne k (by omega) h y e
   ·intro e
    rw [← h3] at e
    have := (cmpL_z _ _).2 e
    have := hl j k h1 (by omega)
    omega
  ·rw [putL_no h]; exact ih
noncomputable def jnL (la lb : List Lf) (hasA hasB : Lf → Prop) : List Lf := putL (fun x => ¬ hasA x) lb (putL (fun x => x ∈ lb ∨ ¬ hasB x) la [] la.length) lb.length
theorem gL_mem {l : List Lf} {x : Lf} : x ∈ l ↔ ∃ j, j < l.length ∧ gL l j = x := by
 constructor
 ·intro h
  obtain ⟨j, hj, e⟩ := List.getElem_of_mem h
  exact ⟨j, hj, by simp [gL, List.getD, hj, e]⟩
 ·rintro ⟨j, hj, e⟩
  rw [← e]
  have : gL l j = l[j] := by simp [gL, List.getD, hj]
  rw [this]; exact List.getElem_mem hj
theorem jnL_mem {la lb : List Lf} {hasA hasB : Lf → Prop} {z : Lf} : z ∈ jnL la lb hasA hasB ↔ (z ∈ la ∧ (z ∈ lb ∨ ¬ hasB z)) ∨ (z ∈ lb ∧ ¬ hasA z) := by
 unfold jnL
 rw [putL_mem, putL_mem]
 constructor
 ·rintro ((e | ⟨j, h1, h2, h3⟩) | ⟨j, h1, h2, h3⟩)
  ·cases e
  ·rw [h3] at h2; exact .inl ⟨gL_mem.2 ⟨j, h1, h3⟩, h2⟩
  ·rw [h3] at h2; exact .inr ⟨gL_mem.2 ⟨j, h1, h3⟩, h2⟩
 ·rintro (⟨h1, h2⟩ | ⟨h1, h2⟩)
  ·obtain ⟨j, hj, e⟩ := gL_mem.1 h1
   exact .inl (.inr ⟨j, hj, by rw [e]; exact h2, e⟩)
  ·obtain ⟨j, hj, e⟩ := gL_mem.1 h1
   exact .inr ⟨j, hj, by rw [e]; exact h2, e⟩
theorem jnL_sorted {la lb : List Lf} {hasA hasB : Lf → Prop} (hA : ∀ i j, i < j → j < la.length → cmpL (gL la i) (gL la j) < 0) (hB : ∀ i j, i < j → j < lb.length → cmpL (gL lb i) (gL lb j) < 0) (hk : ∀ x ∈ la, hasA x) (hd : ∀ x y, lfK x = lfK y → (hasA x ↔ hasA y)) : (jnL la lb hasA hasB).Pairwise (fun a b => cmpL a b < 0) := by
 unfold jnL
 refine putL_sorted (putL_sorted List.Pairwise.nil hA (fun j _ _ y hy => by cases hy) _ (Nat.le_refl _)) hB (fun j hj hP y hy e => ?_) _ (Nat.le_refl _)
 rcases putL_mem.1 hy with h | ⟨i, h1, _, h3⟩
 ·cases h
 ·exact hP ((hd _ _ e).1 (hk y (gL_mem.2 ⟨i, h1, h3⟩)))
theorem lfs_uniq : ∀ {a b : List Lf}, a.Pairwise (fun x y => cmpL x y < 0) → b.Pairwise (fun x y => cmpL x y < 0) → (∀ z, z ∈ a ↔ z ∈ b) → a = b
 | [], [], _, _, _ => rfl
 | [], y :: _, _, _, h => by have := (h y).2 (List.mem_cons_self); cases this
 | x :: _, [], _, _, h => by have := (h x).1 (List.mem_cons_self); cases this
 | x :: r, y :: s, ha, hb, h => by
  have ha' := List.pairwise_cons.1 ha
  have hb' := List.pairwise_cons.1 hb
  have irr : ∀ z : Lf, ¬ cmpL z z < 0 := fun z hz => by have := (cmpL_neg z z).1 hz; omega
  have e : x = y := by
   rcases List.mem_cons.1 ((h x).1 (List.mem_cons_self)) with e | e
   ·exact e
   ·rcases List.mem_cons.1 ((h y).2 (List.mem_cons_self)) with e2 | e2
    ·exact e2.symm
    ·exact absurd (cmpL_tr (ha'.1 y e2) (hb'.1 x e)) (irr x)
  subst e
  congr 1
  refine lfs_uniq ha'.2 hb'.2 fun z => ?_
  constructor
  ·intro hz
   rcases List.mem_cons.1 ((h z).1 (List.mem_cons_of_mem _ hz)) with e | e
   ·subst e; exact absurd (ha'.1 z hz) (irr z)
   ·exact e
  ·intro hz
   rcases List.mem_cons.1 ((h z).2 (List.mem_cons_of_mem _ hz)) with e | e
   ·subst e; exact absurd (hb'.1 z hz) (irr z)
   ·exact e
def StW (R F T : Nat → Int) (n : Nat) (l : List Lf) : Prop := (okTo R F T n ∧ n ≤ 2000) ∧ l.length ≤ 1000 ∧ LvOk R F T n l l.length ∧ Dis l l.length
theorem StOk.w {R F T : Nat → Int} {n : Nat} {l : List Lf} (h : StOk R F T n l) : StW R F T n l := ⟨by have := ctxB_iff.1 h.1; exact ⟨this.1, by omega⟩, h.2⟩
def hasX (R F T : Nat → Int) (n : Nat) (x : Lf) : Prop := hasK R F T x.r x.q x.q n = true
theorem hasX_key {R F T : Nat → Int} {n : Nat} {x y : Lf} (h : lfK x = lfK y) : hasX R F T n x ↔ hasX R F T n y := by
 obtain ⟨_, _, h3, h4⟩ := lfK_way h
 unfold hasX; rw [h3, h4]
theorem lf_ext {x y : Lf} (h : Way x = Way y) (h0 : 0 < x.p.length) (hd : (x.r, x.q) = (y.r, y.q)) (hv : x.v = y.v) : x = y := by
 obtain ⟨e1, e2⟩ := wayOf_inj h h0
 have e3 := kd_inj e2
 have e4 : x.r = y.r := congrArg Prod.fst hd
 have e5 : x.q = y.q := congrArg Prod.snd hd
 cases x; cases y
 simp only at e1 e3 e4 e5 hv
 subst e1 e3 e4 e5 hv
 rfl
theorem Mk_mem {l : List Lf} (hd : Dis l l.length) {z : List Ky} {d : Dt} {v : ByteArray} : Mk l l.length z d = some v ↔ ∃ x ∈ l, Way x = z ∧ (x.r, x.q) = d ∧ x.v = v := by
 rw [Mk_val hd]
 constructor
 ·rintro ⟨j, h1, h2, h3, h4⟩
  exact ⟨gL l j, gL_mem.2 ⟨j, h1, rfl⟩, h2, h3, h4⟩
 ·rintro ⟨x, hx, h2, h3, h4⟩
  obtain ⟨j, hj, e⟩ := gL_mem.1 hx
  exact ⟨j, hj, by rw [e]; exact h2, by rw [e]; exact h3, by rw [e]; exact h4⟩
theorem dis_mem {l : List Lf} (hd : Dis l l.length) {x y : Lf} (hx : x ∈ l) (hy : y ∈ l) (h : x.r = y.r ∧ x.q = y.q) : x = y := by
 obtain ⟨i, hi, ei⟩ := gL_mem.1 hx
 obtain ⟨j, hj, ej⟩ := gL_mem.1 hy
 rcases Nat.lt_trichotomy i j with e | e | e
 ·have := hd j hj i e
  exact absurd (by rw [ei, ej]; exact h) this
 ·subst e; rw [← ei, ← ej]
 ·have := hd i hi j e
  exact absurd (by rw [ei, ej]; exact ⟨h.1.symm, h.2.symm⟩) this
theorem sorted_lt {l : List Lf} (h : l.Pairwise (fun a b => cmpL a b < 0)) {i j : Nat} (hij : i < j) (hj : j < l.length) : cmpL (gL l i) (gL l j) < 0 := by
 have := List.pairwise_iff_getElem.1 h i j (by omega) hj hij
 have e1 : gL l i = l[i] := by simp [gL, List.getD, show i < l.length by omega]
 have e2 : gL l j = l[j] := by simp [gL, List.getD, hj]
 rw [e1, e2]; exact this
section
variable {R F T : Nat → Int} {n : Nat} {la : List Lf} {R' F' T' : Nat → Int} {n' : Nat} {lb : List Lf}
noncomputable def jn (R F T : Nat → Int) (n : Nat) (la : List Lf) (R' F' T' : Nat → Int) (n' : Nat) (lb : List Lf) : List Lf := jnL la lb (hasX R F T n) (hasX R' F' T' n')
theorem jn_sorted (h : StW R F T n la) (h' : StW R' F' T' n' lb) : (jn R F T n la R' F' T' n' lb).Pairwise (fun a b => cmpL a b < 0) :=
 jnL_sorted (fun i j h1 h2 => h.2.2.1.lt j h1 h2) (fun i j h1 h2 => h'.2.2.1.lt j h1 h2) (fun x hx => by
  obtain ⟨j, hj, e⟩ := gL_mem.1 hx
  have := (h.2.2.1 j hj).2.1
  rw [e] at this; exact this) (fun x y e => hasX_key e)
theorem jn_from (z : Lf) (hz : z ∈ jn R F T n la R' F' T' n' lb) : z ∈ la ∨ (z ∈ lb ∧ ¬ hasX R F T n z) := by
 rcases jnL_mem.1 hz with h | h
 ·exact .inl h.1
 ·exact .inr h
theorem jn_dis (h : StW R F T n la) (h' : StW R' F' T' n' lb) : Dis (jn R F T n la R' F' T' n' lb) (jn R F T n la R' F' T' n' lb).length := fun i hi j hj hh => by
 have hs := sorted_lt (jn_sorted h h') hj hi
 have hx := jn_from _ (gL_mem.2 ⟨j, by omega, rfl⟩ : gL (jn R F T n la R' F' T' n' lb) j ∈ _)
 have hy := jn_from _ (gL_mem.2 ⟨i, hi, rfl⟩ : gL (jn R F T n la R' F' T' n' lb) i ∈ _)
 have hA : ∀ z ∈ la, hasX R F T n z := fun z hz => by
  obtain ⟨j, hj, e⟩ := gL_mem.1 hz
  have := (h.2.2.1 j hj).2.1
  rw [e] at this; exact this
 have same : ∀ {x y : Lf}, x.r = y.r ∧ x.q = y.q → (hasX R F T n x ↔ hasX R F T n y) := fun {x y} e => by unfold hasX; rw [e.1, e.2]
 have irr : ∀ z : Lf, ¬ cmpL z z < 0 := fun z hz => by have := (cmpL_neg z z).1 hz; omega
 have e : gL (jn R F T n la R' F' T' n' lb) j = gL (jn R F T n la R' F' T' n' lb) i := by
  rcases hx with hx | ⟨hx, hx2⟩
  ·rcases hy with hy | ⟨hy, hy2⟩
   ·exact dis_mem h.2.2.2 hx hy hh
   ·exact absurd ((same hh).1 (hA _ hx)) hy2
  ·rcases hy with hy | ⟨hy, hy2⟩
   ·exact absurd ((same hh).2 (hA _ hy)) hx2
   ·exact dis_mem h'.2.2.2 hx hy hh
 rw [e] at hs
 exact irr _ hs
theorem jn_ok {U V X : Nat → Int} {m : Nat} (h : StW R F T n la) (h' : StW R' F' T' n' lb) (hu : ∀ z : Lf, hasX R F T n z ∨ hasX R' F' T' n' z → hasX U V X m z) : LvOk U V X m (jn R F T n la R' F' T' n' lb) (jn R F T n la R' F' T' n' lb).length := fun i hi => by
 have hs := jn_sorted h h'
 have hx := jn_from _ (gL_mem.2 ⟨i, hi, rfl⟩ : gL (jn R F T n la R' F' T' n' lb) i ∈ _)
 refine ⟨?_, ?_, fun h0 => sorted_lt hs (by omega) hi⟩
 ·rcases hx with hx | ⟨hx, _⟩
  ·obtain ⟨j, hj, e⟩ := gL_mem.1 hx
   rw [← e]; exact (h.2.2.1 j hj).1
  ·obtain ⟨j, hj, e⟩ := gL_mem.1 hx
   rw [← e]; exact (h'.2.2.1 j hj).1
 ·refine hu _ ?_
  rcases hx with hx | ⟨hx, _⟩
  ·obtain ⟨j, hj, e⟩ := gL_mem.1 hx
   refine .inl ?_
   have := (h.2.2.1 j hj).2.1
   rw [e] at this; exact this
  ·obtain ⟨j, hj, e⟩ := gL_mem.1 hx
   refine .inr ?_
   have := (h'.2.2.1 j hj).2.1
   rw [e] at this; exact this
theorem jn_mark (h : StW R F T n la) (h' : StW R' F' T' n' lb) (z : List Ky) (d : Dt) (v : ByteArray) :
  Mk (jn R F T n la R' F' T' n' lb) (jn R F T n la R' F' T' n' lb).length z d = some v ↔ (Mk la la.length z d = some v ∧ (Mk lb lb.length z d = some v ∨ hasK R' F' T' d.1 d.2 d.2 n' = false)) ∨ (Mk lb lb.length z d = some v ∧ hasK R F T d.1 d.2 d.2 n = false) := by
 have bf : ∀ b : Bool, ¬ b = true ↔ b = false := fun b => by cases b <;> simp
 rw [Mk_mem (jn_dis h h'), Mk_mem h.2.2.2, Mk_mem h'.2.2.2]
 constructor
 ·rintro ⟨x, hx, h2, h3, h4⟩
  have e1 : x.r = d.1 := congrArg Prod.fst h3
  have e2 : x.q = d.2 := congrArg Prod.snd h3
  rcases jnL_mem.1 hx with ⟨g1, g2⟩ | ⟨g1, g2⟩
  ·refine .inl ⟨⟨x, g1, h2, h3, h4⟩, g2.imp (fun g => ⟨x, g, h2, h3, h4⟩) (fun g => ?_)⟩
   unfold hasX at g
   rw [e1, e2] at g
   exact (bf _).1 g
  ·refine .inr ⟨⟨x, g1, h2, h3, h4⟩, ?_⟩
   unfold hasX at g2
   rw [e1, e2] at g2
   exact (bf _).1 g2
 ·rintro (⟨⟨x, hx, h2, h3, h4⟩, g⟩ | ⟨⟨x, hx, h2, h3, h4⟩, g⟩)
  ·have e1 : x.r = d.1 := congrArg Prod.fst h3
   have e2 : x.q = d.2 := congrArg Prod.snd h3
   have h0 : 0 < x.p.length := by
    obtain ⟨j, hj, e⟩ := gL_mem.1 hx
    have := (h.2.2.1 j hj).1.1.1
    rw [e] at this; omega
   refine ⟨x, jnL_mem.2 (.inl ⟨hx, ?_⟩), h2, h3, h4⟩
   rcases g with ⟨y, hy, k2, k3, k4⟩ | g
   ·have : x = y := lf_ext (h2.trans k2.symm) h0 (h3.trans k3.symm) (h4.trans k4.symm)
    rw [this]; exact .inl hy
   ·refine .inr ?_
    unfold hasX
    rw [e1, e2]
    exact (bf _).2 g
  ·have e1 : x.r = d.1 := congrArg Prod.fst h3
   have e2 : x.q = d.2 := congrArg Prod.snd h3
   refine ⟨x, jnL_mem.2 (.inr ⟨hx, ?_⟩), h2, h3, h4⟩
   unfold hasX
   rw [e1, e2]
   exact (bf _).2 g
end
end Go.Proofs.YtcbcabhjododoaaGreat
