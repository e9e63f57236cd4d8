import Derived.Test.YtbimcammjohaoabDoorFrM
namespace Go.Proofs.YtbimcammjohaoabDoor
open Go.ChangeShapes Go.WideShapes Go.ChangeAt Go.RowKit
set_option linter.unusedVariables false
set_option linter.unusedSimpArgs false

def encL (l : List (Int × List Int)) : List Int := (l.map (fun x => frB x.1 (gz x.2) x.2.length)).flatten

def FOk (x : Int × List Int) : Prop := 1 ≤ x.1 ∧ x.1 ≤ 3 ∧ x.2.length ≤ 4000 ∧ Byt (gz x.2)

def eAt (l : List (Int × List Int)) (j : Nat) : Nat := (encL (l.take j)).length
theorem eAt_zero (l : List (Int × List Int)) : eAt l 0 = 0 := by simp [eAt, encL]
theorem encL_cons (x : Int × List Int) (l : List (Int × List Int)) : encL (x :: l) = frB x.1 (gz x.2) x.2.length ++ encL l := by simp [encL]
theorem encL_app (a b : List (Int × List Int)) : encL (a ++ b) = encL a ++ encL b := by simp [encL]
theorem eAt_cons (x : Int × List Int) (l : List (Int × List Int)) (j : Nat) : eAt (x :: l) (j + 1) = (frB x.1 (gz x.2) x.2.length).length + eAt l j := by simp [eAt, encL_cons]
theorem first0 (g : Nat → Int) : firstF g 0 = (0, 0) := by
  unfold firstF headF
  simp
theorem gz_l {a b : List Int} {i : Nat} (h : i < a.length) : gz (a ++ b) i = gz a i := by unfold gz; exact getD_app_l h
theorem gz_r {a b : List Int} {i : Nat} (h : a.length ≤ i) : gz (a ++ b) i = gz b (i - a.length) := by unfold gz; exact getD_app_r h
theorem gz_payl {f : Nat → Int} {zs : List Int} (h : ∀ i, i < zs.length → f i = gz zs i) : payl f zs.length = zs := by
  apply List.ext_getElem
  · simp [payl]
  · intro i h1 h2
    simp only [payl, List.getElem_map, List.getElem_range]
    rw [h i h2]; unfold gz; exact (List.getElem_eq_getD 0).symm
theorem step_put {f : Nat → Int} (hf : Byt f) {x : Int × List Int} (hx : FOk x) {p N : Nat} (h : ∀ i, i < (frB x.1 (gz x.2) x.2.length).length → f (p + i) = gz (frB x.1 (gz x.2) x.2.length) i) (hN : p + (frB x.1 (gz x.2) x.2.length).length ≤ N) :
    firstF (shF f p) (N - p) = (0, (frB x.1 (gz x.2) x.2.length).length) ∧ frameF f N p = x := by
  obtain ⟨k1, k3, kn, kb⟩ := hx
  have hL := frB_length x.1 (gz x.2) x.2.length
  have hu := uvF_len 9 x.2.length
  obtain ⟨e1, e2⟩ := first_put (f := shF f p) (shF_byt hf p) (k := x.1) (pf := gz x.2) (n := x.2.length) (N := N - p) k1 k3 kn h (by omega)
  refine ⟨e1, ?_⟩
  unfold frameF
  rw [e2]
  refine Prod.ext ?_ ?_
  · show f (p + 2) = x.1
    rw [h 2 (by omega)]
    unfold gz frB preF
    rw [getD_app_l (by simp), getD_app_l (by simp)]; rfl
  · show payl (shF f (p + (3 + (uvF 9 x.2.length).length))) x.2.length = x.2
    refine gz_payl (fun i hi => ?_)
    have := h (3 + (uvF 9 x.2.length).length + i) (by omega)
    rw [frB_pay _ _ _ i hi] at this
    show f (p + (3 + (uvF 9 x.2.length).length) + i) = _
    rw [← this]; congr 1; omega

theorem feed_enc {f : Nat → Int} (hf : Byt f) : ∀ (l : List (Int × List Int)) (p N : Nat), (∀ x ∈ l, FOk x) → (∀ i, i < (encL l).length → f (p + i) = gz (encL l) i) → N = p + (encL l).length → feedF f N p = (0, N, l)
  | [], p, N, _, _, hN => by
    have hN' : N = p := by simpa [encL] using hN
    subst hN'
    have e : firstF (shF f N) (N - N) = (0, 0) := by rw [Nat.sub_self]; exact first0 _
    rw [feedF_stop (by rw [e]), e]
  | x :: l, p, N, ho, h, hN => by
    rw [encL_cons, List.length_append] at hN
    have hx := ho x (by simp)
    have hL := frB_length x.1 (gz x.2) x.2.length
    obtain ⟨e1, e2⟩ := step_put hf hx (p := p) (N := N) (fun i hi => by
      rw [h i (by rw [encL_cons, List.length_append]; omega), encL_cons]
      rw [gz_l hi]) (by omega)
    have ih := feed_enc hf l (p + (frB x.1 (gz x.2) x.2.length).length) N (fun y hy => ho y (by simp [hy])) (fun i hi => by
      have := h ((frB x.1 (gz x.2) x.2.length).length + i) (by rw [encL_cons, List.length_append]; omega)
      rw [Nat.add_assoc, this, encL_cons]
      rw [gz_r (by omega), Nat.add_sub_cancel_left]) (by omega)
    rw [feedF_go (by rw [e1]; show (frB x.1 (gz x.2) x.2.length).length ≠ 0; omega), e1, e2]
    dsimp only
    rw [ih]

theorem feed_bad {f : Nat → Int} (hf : Byt f) : ∀ (l : List (Int × List Int)) (j p N o : Nat) (hj : j < l.length), (∀ x ∈ l, FOk x) → (∀ i, i < (encL l).length → i ≠ o → f (p + i) = gz (encL l) i) → f (p + o) ≠ gz (encL l) o → eAt l j ≤ o → o < eAt l (j + 1) → (o < eAt l j + 3 ∨ eAt l (j + 1) ≤ o + 4 + (l[j]).2.length) → p + (encL l).length ≤ N → ∃ x y, x ≠ 0 ∧ feedF f N p = (x, y, l.take j)
  | [], j, _, _, _, hj, _, _, _, _, _, _, _ => absurd hj (by simp)
  | x :: l, 0, p, N, o, hj, ho, h, hne, h1, h2, h3, hN => by
    rw [encL_cons, List.length_append] at hN
    rw [eAt_cons, eAt_zero] at h2 h3
    rw [eAt_zero] at h3
    have hx := ho x (by simp)
    have hL := frB_length x.1 (gz x.2) x.2.length
    have ho' : o < (frB x.1 (gz x.2) x.2.length).length := by omega
    have e3 : ((x :: l)[0]).2.length = x.2.length := rfl
    rw [e3] at h3
    obtain ⟨y, hy, e⟩ := first_bad (f := shF f p) (shF_byt hf p) (k := x.1) (pf := gz x.2) hx.2.2.2 (n := x.2.length) (N := N - p) (o := o) hx.1 hx.2.1 hx.2.2.1 ho' (by omega) (fun i hi hio => by
      show f (p + i) = _
      rw [h i (by rw [encL_cons, List.length_append]; omega) hio, encL_cons]
      rw [gz_l hi]) (by
      show f (p + o) ≠ _
      rw [encL_cons] at hne
      rw [gz_l ho'] at hne
      exact hne) (by omega)
    exact ⟨y, p, hy, by rw [feedF_stop (by rw [e]), e]; simp⟩
  | x :: l, j + 1, p, N, o, hj, ho, h, hne, h1, h2, h3, hN => by
    rw [encL_cons, List.length_append] at hN
    rw [eAt_cons] at h1 h2 h3
    rw [eAt_cons] at h3
    have hx := ho x (by simp)
    have hL := frB_length x.1 (gz x.2) x.2.length
    obtain ⟨e1, e2⟩ := step_put hf hx (p := p) (N := N) (fun i hi => by
      rw [h i (by rw [encL_cons, List.length_append]; omega) (by omega), encL_cons]
      rw [gz_l hi]) (by omega)
    have hj' : j < l.length := by simpa using hj
    have e3 : ((x :: l)[j + 1]).2.length = (l[j]).2.length := by simp
    rw [e3] at h3
    have hne' : f (p + (frB x.1 (gz x.2) x.2.length).length + (o - (frB x.1 (gz x.2) x.2.length).length)) ≠ gz (encL l) (o - (frB x.1 (gz x.2) x.2.length).length) := by
      rw [encL_cons, gz_r (by omega)] at hne
      rw [show p + (frB x.1 (gz x.2) x.2.length).length + (o - (frB x.1 (gz x.2) x.2.length).length) = p + o by omega]
      exact hne
    obtain ⟨a, b, hab, e⟩ := feed_bad hf l j (p + (frB x.1 (gz x.2) x.2.length).length) N (o - (frB x.1 (gz x.2) x.2.length).length) hj' (fun y hy => ho y (by simp [hy])) (fun i hi hio => by
      have := h ((frB x.1 (gz x.2) x.2.length).length + i) (by rw [encL_cons, List.length_append]; omega) (by omega)
      rw [Nat.add_assoc, this, encL_cons]
      rw [gz_r (by omega), Nat.add_sub_cancel_left]) hne' (by omega) (by omega) (by omega) (by omega)
    refine ⟨a, b, hab, ?_⟩
    rw [feedF_go (by rw [e1]; show (frB x.1 (gz x.2) x.2.length).length ≠ 0; omega), e1, e2]
    dsimp only
    rw [e]
    simp
end Go.Proofs.YtbimcammjohaoabDoor
