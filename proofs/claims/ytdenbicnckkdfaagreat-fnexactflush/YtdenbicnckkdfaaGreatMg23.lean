import Derived.Test.YtdenbicnckkdfaaGreatMg21
import Derived.Test.YtdenbicnckkdfaaGreatMg01
import Derived.Laws.BitsAllLaws
namespace Go.Proofs.YtdenbicnckkdfaaGreat
open Go.ChangeShapes Go.WideShapes Go.ChangeAt Go.RowKit Go.Maps Go.Sort Go.Lib Go.Shelf
set_option linter.unusedVariables false
set_option linter.unusedSimpArgs false

theorem cmpP_sym : ∀ p q : List ByteArray, cmpP p q < 0 ↔ 0 < cmpP q p
  | [], [] => by simp [cmpP]
  | [], _ :: _ => by simp [cmpP]
  | _ :: _, [] => by simp [cmpP]
  | s :: p, t :: q => by
    simp only [cmpP]
    by_cases e : cmpS s t = 0
    · have e' : cmpS t s = 0 := cmpS_z.2 (cmpS_z.1 e).symm
      rw [if_pos e, if_pos e']; exact cmpP_sym p q
    · have e' : cmpS t s ≠ 0 := fun h => e (cmpS_z.2 (cmpS_z.1 h).symm)
      rw [if_neg e, if_neg e']; exact CmpT.str.neg s t
theorem cmpP_tr : ∀ p q r : List ByteArray, cmpP p q < 0 → cmpP q r < 0 → cmpP p r < 0
  | [], [], _, h, _ => by simp [cmpP] at h
  | [], _ :: _, [], _, h => by simp [cmpP] at h
  | [], _ :: _, _ :: _, _, _ => by simp [cmpP]
  | _ :: _, [], _, h, _ => by simp [cmpP] at h
  | _ :: _, _ :: _, [], _, h => by simp [cmpP] at h
  | s :: p, t :: q, u :: r, h, h' => by
    simp only [cmpP] at *
    by_cases e : cmpS s t = 0
    · rw [if_pos e] at h
      have := cmpS_z.1 e; subst this
      by_cases e2 : cmpS s u = 0
      · rw [if_pos e2] at h' ⊢; exact cmpP_tr p q r h h'
      · rw [if_neg e2] at h' ⊢; exact h'
    · rw [if_neg e] at h
      by_cases e2 : cmpS t u = 0
      · have := cmpS_z.1 e2; subst this
        rw [if_neg e]; exact h
      · rw [if_neg e2] at h'
        have h3 := CmpT.str.tr s t u h h'
        rw [if_neg (by omega)]; exact h3
theorem CmpT.path : CmpT cmpP := ⟨fun _ _ => cmpP_z, cmpP_sym, cmpP_tr⟩
theorem cmpL_tr {x y z : Lf} (h : cmpL x y < 0) (h' : cmpL y z < 0) : cmpL x z < 0 :=
  (CmpT.path.pair (CmpT.int.pair CmpT.dot)).tr (x.p, (kd x.fl, (x.r, x.q))) (y.p, (kd y.fl, (y.r, y.q))) (z.p, (kd z.fl, (z.r, z.q))) h h'
theorem LvOk.lt {R F T : Nat → Int} {n : Nat} {l : List Lf} {k : Nat} (h : LvOk R F T n l k) {i : Nat} : ∀ j, i < j → j < k → cmpL (gL l i) (gL l j) < 0
  | 0, h1, _ => by omega
  | j + 1, h1, h2 => by
    have hj := (h (j + 1) h2).2.2 (by omega)
    simp only [Nat.add_sub_cancel] at hj
    by_cases e : i = j
    · subst e; exact hj
    · exact cmpL_tr (h.lt j (by omega) (by omega)) hj

theorem wayOf3 (p : List ByteArray) : wayOf p 3 = (List.range p.length).map fun i => (gS p i, 3) := by
  unfold wayOf; congr 1; funext i; split <;> rfl
theorem gS_take {p q : List ByteArray} (h : p <+: q) {i : Nat} (hi : i < p.length) : gS q i = gS p i := by
  obtain ⟨r, rfl⟩ := h
  simp [gS, List.getD, List.getElem?_append, hi]
theorem way_take {p q : List ByteArray} {k : Int} (h : p <+: q) (hl : p.length < q.length) : (wayOf q k).take p.length = wayOf p 3 := by
  apply List.ext_getElem?
  intro i
  by_cases hi : i < p.length
  · rw [List.getElem?_take_of_lt hi, wayOf_get (by omega), wayOf3, if_pos (by omega), gS_take h hi]
    simp [hi]
  · rw [List.getElem?_take_eq_none (by omega), List.getElem?_eq_none (by rw [wayOf_len]; omega)]

noncomputable def nx (p : List ByteArray) (x : Lf) : Option Ky := if yes (p <+: x.p ∧ p.length < x.p.length) = true then some (onWay x.p (kd x.fl) p.length) else none
theorem nx_iff {p : List ByteArray} {x : Lf} {y : Ky} : wayOf p 3 ++ [y] <+: Way x ↔ nx p x = some y := by
  unfold nx Way
  constructor
  · intro h
    have hlen : p.length + 1 ≤ x.p.length := by have := h.length_le; simpa [wayOf_len] using this
    have ht := List.prefix_iff_eq_take.1 h
    simp only [List.length_append, wayOf_len, List.length_cons, List.length_nil] at ht
    rw [wayOf_take (by omega)] at ht
    have h1 := List.append_inj' ht rfl
    have hp : p <+: x.p := by
      have e1 : p = x.p.take p.length := by
        refine gS_ext (by simp; omega) fun i hi => ?_
        have := congrArg (fun l => l[i]?) h1.1
        rw [List.getElem?_take_of_lt hi, wayOf_get hi, wayOf_get (k := kd x.fl) (show i < x.p.length by omega)] at this
        injection this with this
        rw [(Prod.mk.inj this).1]
        simp [gS, List.getD, List.getElem?_take_of_lt hi]
      rw [e1]; exact List.take_prefix _ _
    rw [if_pos (yes_t ⟨hp, by omega⟩)]
    have h2 := h1.2
    simp only [List.cons.injEq, and_true] at h2
    rw [h2]; rfl
  · intro h
    by_cases e : p <+: x.p ∧ p.length < x.p.length
    · rw [if_pos (yes_t e)] at h
      injection h with h
      have := wayOf_take (k := kd x.fl) e.2
      rw [way_take e.1 e.2] at this
      have h3 : (gS x.p p.length, if p.length + 1 < x.p.length then 3 else kd x.fl) = y := h
      rw [h3] at this
      rw [← this]; exact List.take_prefix _ _
    · rw [yes_f e] at h; simp at h

theorem cmpP_app : ∀ (p a b : List ByteArray), cmpP (p ++ a) (p ++ b) = cmpP a b
  | [], _, _ => rfl
  | s :: p, a, b => by
    simp only [List.cons_append, cmpP]
    rw [if_pos (cmpS_z.2 rfl)]; exact cmpP_app p a b
theorem nx_order {p : List ByteArray} {a b : Lf} {y z : Ky} (h : cmpL a b < 0) (ha : nx p a = some y) (hb : nx p b = some z) : cmpK y z ≤ 0 := by
  unfold nx at ha hb
  by_cases e1 : p <+: a.p ∧ p.length < a.p.length
  · by_cases e2 : p <+: b.p ∧ p.length < b.p.length
    · rw [if_pos (yes_t e1)] at ha
      rw [if_pos (yes_t e2)] at hb
      injection ha with ha; injection hb with hb
      obtain ⟨⟨ra, hra⟩, hla⟩ := e1
      obtain ⟨⟨rb, hrb⟩, hlb⟩ := e2
      cases ra with
      | nil => rw [← hra] at hla; simp at hla
      | cons s ra =>
        cases rb with
        | nil => rw [← hrb] at hlb; simp at hlb
        | cons t rb =>
          have ya : y = (s, if ra = [] then kd a.fl else 3) := by
            rw [← ha]; unfold onWay; rw [← hra]
            have e3 : gS (p ++ s :: ra) p.length = s := by simp [gS, List.getD]
            rw [e3]
            cases ra <;> simp
          have zb : z = (t, if rb = [] then kd b.fl else 3) := by
            rw [← hb]; unfold onWay; rw [← hrb]
            have e3 : gS (p ++ t :: rb) p.length = t := by simp [gS, List.getD]
            rw [e3]
            cases rb <;> simp
          unfold cmpL at h
          rw [← hra, ← hrb, cmpP_app] at h
          rw [ya, zb]
          unfold cmpK
          simp only [cmpP] at h
          by_cases e4 : cmpS s t = 0
          · rw [if_pos e4] at h
            simp only [orI, e4, if_true]
            have kb : kd b.fl ≤ 3 := by cases b.fl <;> decide
            have ka : kd a.fl ≤ 3 := by cases a.fl <;> decide
            cases ra with
            | nil =>
              cases rb with
              | nil =>
                simp only [if_true]
                simp only [cmpP, orI, if_true] at h
                by_cases e5 : cmpI (kd a.fl) (kd b.fl) = 0
                · omega
                · rw [if_neg e5] at h; omega
              | cons u rb =>
                simp only [if_true, reduceCtorEq, if_false]
                unfold cmpI; split
                · omega
                · split <;> omega
            | cons u ra =>
              cases rb with
              | nil => simp [cmpP, orI] at h
              | cons v rb => simp [cmpI]
          · rw [if_neg e4] at h
            simp only [orI, e4, if_false] at h ⊢
            omega
    · rw [yes_f e2] at hb; simp at hb
  · rw [yes_f e1] at ha; simp at ha

noncomputable def kS (l : List Lf) (p : List ByteArray) : Nat → List Ky
  | 0 => []
  | k + 1 => match nx p (gL l k) with
    | none => kS l p k
    | some y => if yes ((kS l p k).getLast? = some y) = true then kS l p k else kS l p k ++ [y]
theorem kS_none {l : List Lf} {p : List ByteArray} {k : Nat} (h : nx p (gL l k) = none) : kS l p (k + 1) = kS l p k := by simp only [kS, h]
theorem kS_some {l : List Lf} {p : List ByteArray} {k : Nat} {y : Ky} (h : nx p (gL l k) = some y) : kS l p (k + 1) = if yes ((kS l p k).getLast? = some y) = true then kS l p k else kS l p k ++ [y] := by simp only [kS, h]
theorem kS_len (l : List Lf) (p : List ByteArray) : ∀ k, (kS l p k).length ≤ k
  | 0 => by simp [kS]
  | k + 1 => by
    have ih := kS_len l p k
    cases h : nx p (gL l k) with
    | none => rw [kS_none h]; omega
    | some y => rw [kS_some h]; split <;> simp <;> omega
theorem kS_ok {R F T : Nat → Int} {n : Nat} {l : List Lf} (p : List ByteArray) (h : LvOk R F T n l l.length) : ∀ k, k ≤ l.length → (kS l p k).Pairwise (fun x y => cmpK x y < 0) ∧ ∀ y, y ∈ kS l p k ↔ ∃ j, j < k ∧ nx p (gL l j) = some y
  | 0, _ => ⟨List.Pairwise.nil, fun y => by simp [kS]⟩
  | k + 1, hk => by
    obtain ⟨ih1, ih2⟩ := kS_ok p h k (by omega)
    have mem : ∀ y, (∃ j, j < k + 1 ∧ nx p (gL l j) = some y) ↔ y ∈ kS l p k ∨ nx p (gL l k) = some y := fun y => by
      rw [ih2]
      constructor
      · rintro ⟨j, hj, e⟩
        by_cases ej : j = k
        · subst ej; exact .inr e
        · exact .inl ⟨j, by omega, e⟩
      · rintro (⟨j, hj, e⟩ | e)
        · exact ⟨j, by omega, e⟩
        · exact ⟨k, by omega, e⟩
    cases hn : nx p (gL l k) with
    | none =>
      rw [kS_none hn]
      refine ⟨ih1, fun y => ?_⟩
      rw [mem y, hn]; simp
    | some z =>
      have le : ∀ y ∈ kS l p k, cmpK y z ≤ 0 := fun y hy => by
        obtain ⟨j, hj, e⟩ := (ih2 y).1 hy
        exact nx_order (h.lt k hj (by omega)) e hn
      rw [kS_some hn]
      by_cases e : (kS l p k).getLast? = some z
      · rw [if_pos (yes_t e)]
        refine ⟨ih1, fun y => ?_⟩
        rw [mem y, hn]
        constructor
        · exact .inl
        · rintro (h1 | h1)
          · exact h1
          · injection h1 with h1; subst h1; exact List.mem_of_getLast? e
      · rw [if_neg (by rw [yes_f e]; simp)]
        have hz : z ∉ kS l p k := fun hz => by
          obtain ⟨ys, u, hu⟩ : ∃ ys u, kS l p k = ys ++ [u] := by
            refine ⟨(kS l p k).dropLast, (kS l p k).getLast (List.ne_nil_of_mem hz), (List.dropLast_concat_getLast _).symm⟩
          rw [hu] at hz le e ih1
          simp at e
          rcases List.mem_append.1 hz with h1 | h1
          · have h2 := (List.pairwise_append.1 ih1).2.2 z h1 u (by simp)
            have h3 := le u (by simp)
            have h4 := CmpT.key.neg z u
            have : 0 < cmpK u z := h4.1 h2
            omega
          · simp at h1; exact e h1.symm
        refine ⟨List.pairwise_append.2 ⟨ih1, List.pairwise_singleton _ _, fun x hx y hy => ?_⟩, fun y => ?_⟩
        · simp at hy; subst hy
          have h1 := le x hx
          have h2 : cmpK x y ≠ 0 := fun e => hz ((CmpT.key.z x y).1 e ▸ hx)
          omega
        · rw [mem y, hn]
          simp only [List.mem_append, List.mem_singleton, Option.some.injEq]
          exact ⟨fun h => h.imp id Eq.symm, fun h => h.imp id Eq.symm⟩

theorem kS_tree {R F T : Nat → Int} {n : Nat} {l : List Lf} {N : List Ky → Option (Nat × Nat)} {p : List ByteArray} {ts : List Ky} (h : LvOk R F T n l l.length) (hI : NkI l l.length N) (h1 : ts.Pairwise (fun x y => cmpK x y < 0)) (h2 : ∀ x, x ∈ ts ↔ N (wayOf p 3 ++ [x]) ≠ none) : ts = kS l p l.length := by
  obtain ⟨k1, k2⟩ := kS_ok p h l.length (Nat.le_refl _)
  refine CmpT.key.uniq h1 k1 fun x => ?_
  rw [h2, k2]
  have := hI (wayOf p 3 ++ [x])
  rw [Option.isSome_iff_ne_none] at this
  rw [this]
  simp only [List.append_eq_nil_iff, List.cons_ne_self, and_false, false_or, reduceCtorEq]
  constructor
  · rintro ⟨j, hj, e⟩; exact ⟨j, hj, nx_iff.1 e⟩
  · rintro ⟨j, hj, e⟩; exact ⟨j, hj, nx_iff.2 e⟩
end Go.Proofs.YtdenbicnckkdfaaGreat

namespace Go.Proofs.YtdenbicnckkdfaaGreat
open Go.ChangeShapes Go.WideShapes Go.ChangeAt Go.RowKit
set_option linter.unusedVariables false

def uvF : Nat → Nat → List Int
  | 0, v => [(v : Int)]
  | k + 1, v => if v < 128 then [(v : Int)] else ((128 + v % 128 : Nat) : Int) :: uvF k (v / 128)

def Own (w : World) (B : Nat) (v : Value) (zs : List Int) : Prop := w.ownsRow B 5 1 v zs.length (zs.map (Value.int .u8))

theorem uvF_lt (k v : Nat) (h : v < 128) : uvF k v = [(v : Int)] := by
  cases k <;> simp [uvF, h]
theorem uvF_ge (k v : Nat) (h : ¬ v < 128) : uvF (k + 1) v = ((128 + v % 128 : Nat) : Int) :: uvF k (v / 128) := by
  simp [uvF, h]
theorem uvF_len (k : Nat) : ∀ v, (uvF k v).length ≤ k + 1 ∧ 0 < (uvF k v).length := by
  induction k with
  | zero => intro v; simp [uvF]
  | succ k ih =>
    intro v
    by_cases h : v < 128
    · rw [uvF_lt _ _ h]; simp
    · rw [uvF_ge _ _ h]; have := ih (v / 128); simp; omega
theorem uvF_byte (k : Nat) : ∀ v, v < 128 ^ (k + 1) → ∀ z ∈ uvF k v, 0 ≤ z ∧ z < 256 := by
  induction k with
  | zero => intro v h z hz; simp [uvF] at hz; subst hz; simp at h; omega
  | succ k ih =>
    intro v h z hz
    by_cases hv : v < 128
    · rw [uvF_lt _ _ hv] at hz; simp at hz; subst hz; omega
    · rw [uvF_ge _ _ hv] at hz
      rcases List.mem_cons.1 hz with hz | hz
      · subst hz; omega
      · exact ih (v / 128) (by rw [Nat.pow_succ] at h; omega) z hz

theorem and127 (m : Nat) (h : m < 18446744073709551616) : bits BinOp.and IntKind.u64 (m : Int) 127 = ((m % 128 : Nat) : Int) := by
  have := u64_and_nat m 127 h (by omega)
  rw [show (127 : Nat) = 2 ^ 7 - 1 from rfl, Nat.and_two_pow_sub_one_eq_mod] at this
  exact this
theorem or128 (a : Nat) (h : a < 128) : bits BinOp.or IntKind.u8 (a : Int) 128 = ((128 + a : Nat) : Int) := by
  have e := u8_or_nat a 128 (by omega) (by omega)
  have e2 : a ||| 128 = 128 + a := by
    have := Nat.two_pow_add_eq_or_of_lt (i := 7) (b := a) h 1
    rw [Nat.or_comm]; simpa using this.symm
  rw [e2] at e
  exact e

theorem own_one (w : World) (B : Nat) (z : Int) (hB : B ≤ w.heap.size) : Own (w.alloc (.cells #[.int .u8 z] 5)) B (.slice (some ⟨w.heap.size, 0, none⟩) 1 1) [z] := by
  have := World.ownsRow_lit (base := B) (e := 5) (size := 1) w #[.int .u8 z] 1 hB (by unfold maxLen; omega) rfl
  exact this

set_option maxRecDepth 100000 in
set_option maxHeartbeats 800000 in
theorem appendUv (B m0 : Nat) (bv : Value) (zs0 : List Int) (w : World) (hm : m0 < 18446744073709551616) (hB : B ≤ w.heap.size) (hl : zs0.length ≤ 1000000000000) (ho : Own w B bv zs0) :
    Calls Tryz.prog 76 #[bv, .int .u64 (m0 : Int)] w fun e w' => ∃ v, e = .returned v ∧ Own w' B v (zs0 ++ uvF 9 m0) ∧ Below B w w' ∧ w.heap.size < w'.heap.size := by
  obtain ⟨i0, hi, hz0, hz1, hz2⟩ := info_parts Tryz.infoByte
  go_enter Tryz.func76, Tryz.ntmps76
  go_wp2_with fail
  go_loopw [0, 1] (fun b v wr => ∃ (k m : Nat) (zs : List Int), k ≤ 9 ∧ m < 128 ^ (k + 1) ∧ m < 18446744073709551616 ∧ v = .int .u64 (m : Int) ∧ Own wr B b zs ∧ Below B w wr ∧ w.heap.size ≤ wr.heap.size ∧ zs.length + k ≤ zs0.length + 9 ∧ zs ++ uvF k m = zs0 ++ uvF 9 m0) (fun _ v _ => (intOf v).toNat)
  case atStart => exact ⟨9, m0, zs0, Nat.le_refl _, by omega, hm, rfl, ho, Below.refl _ _, Nat.le_refl _, Nat.le_refl _, rfl⟩
  case round =>
    obtain ⟨k, m, zs, hk, hmk, hm64, rfl, hown, hbel, hsz, hlen, heq⟩ := hrel
    have HE : Hid (zs ++ uvF k m = zs0 ++ uvF 9 m0) := heq
    have HK : Hid (m < 128 ^ (k + 1)) := hmk
    clear heq ho hmk
    unfold Own at hown
    by_cases hlt : m < 128
    · go_wp2_with (at_builtin; refine wpList_append_own _ rfl _ _ 39 rfl B 5 i0 (.int .u8 0) 1 1 Tryz.underlying39 hi hz0 hz1 hz2 rfl (by decide) _ _ _ rfl (hown.alloc _) ⟨wr.heap.size, 0, none⟩ 1 1 [.int .u8 (m : Int)] rfl rfl ?c1 ?c2 ?c3 ?c4 ?c5 ?_)
      case c1 => exact cell_one_new _ _ _
      case c2 => intro u hu; simp at hu; subst hu; rfl
      case c3 => unfold maxLen; omega
      case c4 => omega
      case c5 => simp; omega
      · intro v' w1 hown' hgr _
        have hB1 := hbel.size
        have R : Own w1 B v' (zs0 ++ uvF 9 m0) := by
          rw [← HE.out, uvF_lt k m hlt]
          unfold Own
          rw [List.length_append, List.map_append]
          exact hown'
        have RB : Below B w w1 := (hbel.alloc (by omega) _).grown hgr (by simp; omega) (fun k hk => (hown.lt k hk).1)
        have RZ := hgr.size
        simp at RZ
        clear hown' hgr hown
        go_wp2
        go_ret
        exact ⟨v', rfl, R, RB, by omega⟩
    · have e1 := and127 m hm64
      have e2 : bits BinOp.or IntKind.u8 ((m : Int) % 128) 128 = 128 + (m : Int) % 128 := by
        have := or128 (m % 128) (by omega)
        simpa using this
      go_wp2_with (at_builtin; refine wpList_append_own _ rfl _ _ 39 rfl B 5 i0 (.int .u8 0) 1 1 Tryz.underlying39 hi hz0 hz1 hz2 rfl (by decide) _ _ _ rfl (hown.alloc _) ⟨wr.heap.size, 0, none⟩ 1 1 [.int .u8 (128 + (m : Int) % 128)] rfl rfl ?d1 ?d2 ?d3 ?d4 ?d5 ?_)
      case d1 => exact cell_one_new _ _ _
      case d2 => intro u hu; simp at hu; subst hu; rfl
      case d3 => unfold maxLen; omega
      case d4 => omega
      case d5 => simp; omega
      · intro v' w1 hown' hgr _
        have hk1 : 1 ≤ k := by
          have := HK.out
          rcases Nat.eq_zero_or_pos k with rfl | h
          · simp at this; omega
          · exact h
        obtain ⟨j, rfl⟩ : ∃ j, k = j + 1 := ⟨k - 1, by omega⟩
        have hB1 := hbel.size
        have R : Own w1 B v' (zs ++ [128 + (m : Int) % 128]) := by
          unfold Own
          rw [List.length_append, List.map_append]
          exact hown'
        have RE : Hid (zs ++ [128 + (m : Int) % 128] ++ uvF j (m / 128) = zs0 ++ uvF 9 m0) := by
          have := HE.out
          rw [uvF_ge j m hlt] at this
          show _ = _
          rw [← this]; simp
        have RK : Hid (m / 128 < 128 ^ (j + 1)) := by
          have := HK.out
          rw [Nat.pow_succ] at this
          show _ < _
          omega
        have RB : Below B w w1 := (hbel.alloc (by omega) _).grown hgr (by simp; omega) (fun k hk => (hown.lt k hk).1)
        have RZ := hgr.size
        simp at RZ
        clear hown' hgr hown HE HK e2 e1
        go_wp2
        go_roundw
        case rel => exact ⟨j, m / 128, _, by omega, RK.out, by omega, by go_num, R, RB, by omega, by simp; omega, RE.out⟩
        case measure => simp [intOf]; omega
end Go.Proofs.YtdenbicnckkdfaaGreat
