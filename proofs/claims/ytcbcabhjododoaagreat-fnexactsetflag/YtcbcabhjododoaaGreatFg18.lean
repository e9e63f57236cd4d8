import Derived.Test.YtcbcabhjododoaaGreatFg17
import Derived.Lib.AppendStr
import Derived.Laws.IdiomStrings
import Derived.Test.YtcbcabhjododoaaGreatFg16
set_option linter.unusedVariables false
set_option linter.unusedSimpArgs false
set_option maxRecDepth 100000
set_option maxHeartbeats 40000000
namespace Go.Proofs.YtcbcabhjododoaaGreat
open Go.ChangeShapes Go.WideShapes Go.ChangeAt Go.RowKit
noncomputable def dsK (l : List Lf) (p : List ByteArray) (y : Ky) : Nat → List Lf
 | 0 => []
 | k + 1 => if yes (nx p (gL l k) = some y) = true then dsK l p y k ++ [gL l k] else dsK l p y k
theorem dsK_yes {l : List Lf} {p : List ByteArray} {y : Ky} {k : Nat} (h : nx p (gL l k) = some y) : dsK l p y (k + 1) = dsK l p y k ++ [gL l k] := by simp only [dsK]; rw [if_pos (yes_t h)]
theorem dsK_no {l : List Lf} {p : List ByteArray} {y : Ky} {k : Nat} (h : nx p (gL l k) ≠ some y) : dsK l p y (k + 1) = dsK l p y k := by simp only [dsK]; rw [if_neg (by rw [yes_f h]; simp)]
theorem dsK_mem {l : List Lf} {p : List ByteArray} {y : Ky} {x : Lf} : ∀ {k : Nat}, x ∈ dsK l p y k ↔ ∃ j, j < k ∧ nx p (gL l j) = some y ∧ gL l j = x
 | 0 => by simp [dsK]
 | k + 1 => by
  have ih := dsK_mem (l := l) (p := p) (y := y) (x := x) (k := k)
  by_cases h : nx p (gL l k) = some y
  ·rw [dsK_yes h, List.mem_append, List.mem_singleton, ih]
   constructor
   ·rintro (⟨j, hj, e⟩ | rfl)
    ·exact ⟨j, by omega, e⟩
    ·exact ⟨k, by omega, h, rfl⟩
   ·rintro ⟨j, hj, e1, e2⟩
    by_cases ej : j = k
    ·subst ej; exact .inr e2.symm
    ·exact .inl ⟨j, by omega, e1, e2⟩
  ·rw [dsK_no h, ih]
   constructor
   ·rintro ⟨j, hj, e⟩; exact ⟨j, by omega, e⟩
   ·rintro ⟨j, hj, e1, e2⟩
    by_cases ej : j = k
    ·subst ej; exact absurd e1 h
    ·exact ⟨j, by omega, e1, e2⟩
theorem nx_some {p : List ByteArray} {x : Lf} {y : Ky} : nx p x = some y ↔ (p <+: x.p ∧ p.length < x.p.length) ∧ onWay x.p (kd x.fl) p.length = y := by
 unfold nx
 by_cases h : p <+: x.p ∧ p.length < x.p.length
 ·rw [if_pos (yes_t h)]; simp [h]
 ·rw [if_neg (by rw [yes_f h]; simp)]; simp [h]
theorem nx_ne {p : List ByteArray} {x : Lf} : nx p x ≠ none ↔ p <+: x.p ∧ p.length < x.p.length := by
 unfold nx
 by_cases h : p <+: x.p ∧ p.length < x.p.length
 ·rw [if_pos (yes_t h)]; simp [h]
 ·rw [if_neg (by rw [yes_f h]; simp)]; simp [h]
theorem kd_or (b : Bool) : kd b = 1 ∨ kd b = 2 := by cases b <;> simp [kd]
theorem pre_snoc {p q : List ByteArray} {s : ByteArray} : p ++ [s] <+: q ↔ (p <+: q ∧ p.length < q.length) ∧ gS q p.length = s := by
 constructor
 ·rintro ⟨r, rfl⟩
  refine ⟨⟨⟨s :: r, by simp⟩, by simp⟩, ?_⟩
  simp [gS, List.getD]
 ·rintro ⟨⟨⟨r, rfl⟩, h⟩, e⟩
  cases r with
  | nil => simp at h
  | cons t r =>
   simp [gS, List.getD] at e
   subst e
   exact ⟨r, by simp⟩
theorem nx_map {p : List ByteArray} {x : Lf} {s : ByteArray} : nx p x = some (s, 3) ↔ nx (p ++ [s]) x ≠ none := by
 rw [nx_some, nx_ne, pre_snoc]
 unfold onWay
 constructor
 ·rintro ⟨h, e⟩
  have e1 := congrArg Prod.fst e
  have e2 := congrArg Prod.snd e
  dsimp only at e1 e2
  by_cases hl : p.length + 1 < x.p.length
  ·exact ⟨⟨h, e1⟩, by simpa using hl⟩
  ·rw [if_neg hl] at e2
   rcases kd_or x.fl with k | k <;> rw [k] at e2 <;> exact absurd e2 (by decide)
 ·rintro ⟨⟨h, e⟩, hl⟩
  refine ⟨h, ?_⟩
  rw [if_pos (by simpa using hl), e]
theorem nx_leaf {p : List ByteArray} {x : Lf} {y : Ky} (hy : y.2 ≠ 3) : nx p x = some y ↔ Way x = wayOf p 3 ++ [y] := by
 rw [← nx_iff]
 constructor
 ·intro h
  have h' := nx_iff.1 h
  rw [nx_some] at h'
  obtain ⟨⟨_, hl⟩, e⟩ := h'
  have e2 := congrArg Prod.snd e
  unfold onWay at e2
  dsimp only at e2
  have hl2 : ¬ p.length + 1 < x.p.length := fun hh => by rw [if_pos hh] at e2; exact hy e2.symm
  refine (h.eq_of_length ?_).symm
  simp [Way, wayOf_len]; omega
 ·intro h; rw [h]; exact List.prefix_refl _
theorem nx_leaf_path {p : List ByteArray} {x : Lf} {y : Ky} (hy : y.2 ≠ 3) (h : nx p x = some y) : x.p = p ++ [y.1] ∧ kd x.fl = y.2 := by
 rw [nx_some] at h
 obtain ⟨⟨hp, hl⟩, e⟩ := h
 have e1 := congrArg Prod.fst e
 have e2 := congrArg Prod.snd e
 unfold onWay at e1 e2
 dsimp only at e1 e2
 have hl2 : ¬ p.length + 1 < x.p.length := fun hh => by rw [if_pos hh] at e2; exact hy e2.symm
 rw [if_neg hl2] at e2
 exact ⟨((pre_snoc.2 ⟨⟨hp, hl⟩, e1⟩).eq_of_length (by simp; omega)).symm, e2⟩
theorem kd_inj {a b : Bool} (h : kd a = kd b) : a = b := by cases a <;> cases b <;> simp [kd] at h ⊢
theorem dsK_sorted {R F T : Nat → Int} {n : Nat} {l : List Lf} {p : List ByteArray} {y : Ky} (h : LvOk R F T n l l.length) (hy : y.2 ≠ 3) : ∀ k, k ≤ l.length → ((dsK l p y k).map fun x => ((x.r, x.q) : Dt)).Pairwise (fun x y => cmpDt x y < 0)
 | 0, _ => by simp [dsK]
 | k + 1, hk => by
  have ih := dsK_sorted (p := p) h hy k (by omega)
  by_cases e : nx p (gL l k) = some y
  ·rw [dsK_yes e, List.map_append]
   refine List.pairwise_append.2 ⟨ih, by simp, fun a ha b hb => ?_⟩
   simp only [List.map_cons, List.map_nil, List.mem_singleton] at hb
   subst hb
   obtain ⟨x, hx, rfl⟩ := List.mem_map.1 ha
   obtain ⟨j, hj, e1, rfl⟩ := dsK_mem.1 hx
   have hlt := h.lt (i := j) k hj (by omega)
   obtain ⟨p1, k1⟩ := nx_leaf_path hy e1
   obtain ⟨p2, k2⟩ := nx_leaf_path hy e
   unfold cmpL at hlt
   rw [p1, p2, k1, k2, cmpP_z.2 rfl, show cmpI y.2 y.2 = 0 from CmpT.int.irr _] at hlt
   simpa [orI, cmpD, cmpDt] using hlt
  ·rw [dsK_no e]; exact ih
theorem dots_tree {R F T : Nat → Int} {n : Nat} {l : List Lf} {p : List ByteArray} {y : Ky} {ts : List Dt} (h : LvOk R F T n l l.length) (hy : y.2 ≠ 3) (h1 : ts.Pairwise (fun x y => cmpDt x y < 0)) (h2 : ∀ d, d ∈ ts ↔ Mk l l.length (wayOf p 3 ++ [y]) d ≠ none) : ts = (dsK l p y l.length).map fun x => ((x.r, x.q) : Dt) := by
 refine CmpT.dot.uniq h1 (dsK_sorted h hy _ (Nat.le_refl _)) fun d => ?_
 rw [h2, Mk_ne, List.mem_map]
 constructor
 ·rintro ⟨j, hj, e1, e2⟩; exact ⟨gL l j, dsK_mem.2 ⟨j, hj, (nx_leaf hy).2 e1, rfl⟩, e2⟩
 ·rintro ⟨x, hx, e⟩
  obtain ⟨j, hj, e1, rfl⟩ := dsK_mem.1 hx
  exact ⟨j, hj, (nx_leaf hy).1 e1, e⟩
theorem mark_tree {l : List Lf} {p : List ByteArray} {y : Ky} {x : Lf} (hy : y.2 ≠ 3) (hd : Dis l l.length) (hx : x ∈ dsK l p y l.length) : Mk l l.length (wayOf p 3 ++ [y]) (x.r, x.q) = some x.v := by
 obtain ⟨j, hj, e1, rfl⟩ := dsK_mem.1 hx
 exact (Mk_val hd).2 ⟨j, hj, (nx_leaf hy).1 e1, rfl, rfl⟩
theorem way_snoc (p : List ByteArray) (s : ByteArray) : wayOf (p ++ [s]) 3 = wayOf p 3 ++ [(s, 3)] := by
 rw [wayOf3, wayOf3, List.length_append, List.length_singleton, List.range_succ, List.map_append]
 congr 1
 ·refine List.map_congr_left fun i hi => ?_
  rw [gS_take (List.prefix_append p [s]) (by simpa using hi)]
 ·simp [gS, List.getD]
end Go.Proofs.YtcbcabhjododoaaGreat
