import Derived.Test.YtcbcabhjododoaaGreatFg24
set_option linter.unusedVariables false
set_option linter.unusedSimpArgs false
set_option maxRecDepth 100000
set_option maxHeartbeats 40000000
namespace Go.Proofs.YtcbcabhjododoaaGreat
open Go.ChangeShapes Go.WideShapes Go.ChangeAt Go.RowKit Go.Maps
theorem gr_frozen {w w' : World} {row : Option Nat} {a : Addr} (hg : w.grownBy w' row) (hlt : a.block < w.heap.size) (hne : some a.block ≠ row) : w'.frozen? a = w.frozen? a := by
 unfold World.frozen?
 rw [hg.block a.block hlt hne]
theorem Bx3.gr {w w' : World} {b : Nat} {v0 v1 v2 : Value} {row : Option Nat} (h : Bx3 w b v0 v1 v2) (hg : w.grownBy w' row) (hr : ∀ k, row = some k → k ≠ b) : Bx3 w' b v0 v1 v2 :=
 have ne : some b ≠ row := fun e => hr b e.symm rfl
 ⟨hg.cell h.c0 ne, hg.cell h.c1 ne, hg.cell h.c2 ne, fun i => (gr_frozen hg h.lt ne).trans (h.f i), Nat.lt_of_lt_of_le h.lt hg.size⟩
theorem Bx2.gr {w w' : World} {b : Nat} {v0 v1 : Value} {row : Option Nat} (h : Bx2 w b v0 v1) (hg : w.grownBy w' row) (hr : ∀ k, row = some k → k ≠ b) : Bx2 w' b v0 v1 :=
 have ne : some b ≠ row := fun e => hr b e.symm rfl
 ⟨hg.cell h.c0 ne, hg.cell h.c1 ne, fun i => (gr_frozen hg h.lt ne).trans (h.f i), Nat.lt_of_lt_of_le h.lt hg.size⟩
theorem below_gr {w w' : World} (b : Below w.heap.size w w') (row : Option Nat) : w.grownBy w' row := ⟨b.os, b.tape, b.output, b.size, fun k hk _ => b.block k hk⟩
structure JB (w : World) (s t : Nat) (a0 a1 a2 b0 b1 b2 : Option Nat) (x0 : Nat × Nat) : Prop where
 a : Bx3 w s (.map a0) (.map a1) (.map a2)
 b : Bx3 w (s + 1) (.map b0) (.map b1) (.map b2)
 r : Bx2 w (s + 1 + 1) (.map none) (.map none)
 j : Bx2 w t (.map (some x0.1)) (.map (some x0.2))
section
variable {w w' : World} {s t : Nat} {a0 a1 a2 b0 b1 b2 : Option Nat} {x0 : Nat × Nat}
theorem JB.gr {row : Option Nat} (h : JB w s t a0 a1 a2 b0 b1 b2 x0) (hg : w.grownBy w' row) (hr : ∀ k, row = some k → k ≠ s ∧ k ≠ s + 1 ∧ k ≠ s + 1 + 1 ∧ k ≠ t) : JB w' s t a0 a1 a2 b0 b1 b2 x0 :=
 ⟨h.a.gr hg (fun k e => (hr k e).1), h.b.gr hg (fun k e => (hr k e).2.1), h.r.gr hg (fun k e => (hr k e).2.2.1), h.j.gr hg (fun k e => (hr k e).2.2.2)⟩
theorem JB.below (h : JB w s t a0 a1 a2 b0 b1 b2 x0) (hb : Below w.heap.size w w') : JB w' s t a0 a1 a2 b0 b1 b2 x0 := h.gr (below_gr hb none) (fun k e => by cases e)
end
section
variable {w w' : World} {B c : Nat} {N : List Ky → Option (Nat × Nat)} {M : List Ky → Dt → Option ByteArray}
theorem Tre.lower {B' : Nat} (h : Tre w B N M c) (hB : B' ≤ B) : Tre w B' N M c := ⟨h.kids, h.marks, h.apart, fun p x hx => by have := h.lo p x hx; omega, h.none', h.up⟩
theorem Tre.mo_marks (h : Tre w B N M c) (z : List Ky) : MO w 55 dtV mrkV (mS (N z)) c (M z) := by
 cases e : N z with
 | none => exact fun x => by rw [h.none' z e]
 | some x => exact h.marks z x e
theorem Tre.mo_kids (h : Tre w B N M c) (z : List Ky) : MO w 140 keyV nodV (mF (N z)) c (fun y => N (z ++ [y])) := by
 cases e : N z with
 | none => exact fun x => h.up z x e
 | some x => exact h.kids z x e
end
section
variable {w w' : World} {B c : Nat} {J : List Lf} {z : List Ky} {K : Ky → Prop} {N N1 : List Ky → Option (Nat × Nat)} {x0 x1 : Nat × Nat}
theorem JT.congr {K' : Ky → Prop} (h : JT w B J z K N c x0) (hK : ∀ u, K u ↔ K' u) : JT w B J z K' N c x0 := by
 have : K = K' := funext fun u => propext (hK u)
 rw [← this]; exact h
theorem JT.mono {c' : Nat} (h : JT w B J z K N c x0) (hc : c ≤ c') : JT w B J z K N c' x0 := ⟨h.tre.mono hc, h.root, h.there⟩
theorem JT.below (h : JT w B J z K N c x0) (hb : Below w.heap.size w w') : JT w' B J z K N c x0 := ⟨h.tre.below hb, h.root, h.there⟩
theorem JT.kept' {r : Nat} (h : JT w B J z K N c x0) (hg : w.grownBy w' (some r)) (hr : ∀ es cl, w.heap[r]? ≠ some (.map es cl)) : JT w' B J z K N c x0 :=
 ⟨h.tre.same fun p x hx => ⟨hg.block _ (h.tre.lt hx).1 (fun e => by obtain ⟨es, cl, ho⟩ := (h.tre.kids p x hx).obj; injection e with e; rw [e] at ho; exact hr es cl ho), hg.block _ (h.tre.lt hx).2 (fun e => by obtain ⟨es, cl, ho⟩ := (h.tre.marks p x hx).obj; injection e with e; rw [e] at ho; exact hr es cl ho)⟩, h.root, h.there⟩
theorem JT.round {w8 w9 w10 : World} {y : Ky} (h : JT w8 B J z K N c x0) (b9 : Below w8.heap.size w8 w9) (h1 : JF w9 w8.heap.size J (z ++ [y]) N1 c x1) (hB : B ≤ w8.heap.size) (hy : ¬ K y) (hg : w9.grownBy w10 (some x0.1))
  (hm : Bears (fun u => N1 [u]) (Mk J J.length (z ++ [y])) → MapF w10 140 keyV nodV x0.1 (c + 1) (updF (fun u => N [u]) y (some x1))) (hn : ¬ Bears (fun u => N1 [u]) (Mk J J.length (z ++ [y])) → Below w9.heap.size w9 w10) :
  ∃ N', JT w10 B J z (fun u => K u ∨ u = y) N' (c + 1) x0 := by
 by_cases e : Bears (fun u => N1 [u]) (Mk J J.length (z ++ [y]))
 ·refine ⟨_, (h.below b9).hang ⟨h1.tre.lower hB, h1.root, h1.there⟩ hy (h1.bears.2 e) (fun p q a b ha hb => ?_) hg ((hm e).ext fun u => ?_)⟩
  ·have g1 := h.tre.lt ha
   have g2 := h1.tre.lo q b hb
   omega
  ·unfold updF; by_cases e : u = y <;> simp [e]
 ·exact ⟨N, ((h.below b9).skip hy (fun ha => e (h1.bears.1 ha))).below (hn e) |>.mono (Nat.le_succ _)⟩
end
theorem JB.sees {w : World} {s t u : Nat} {a0 a1 a2 b0 b1 b2 : Option Nat} {x0 : Nat × Nat} {ks : ByteArray} {kk : Int} (h : JB w s t a0 a1 a2 b0 b1 b2 x0) (hk : Bx2 w u (.string ks) (.int .i64 kk)) :
  w.cell? ⟨t, 0, none⟩ = some (.map (some x0.1)) ∧ w.cell? ⟨t, 1, none⟩ = some (.map (some x0.2)) ∧ w.cell? ⟨u, 0, none⟩ = some (.string ks) ∧ w.cell? ⟨u, 1, none⟩ = some (.int .i64 kk) ∧ w.cell? ⟨s, 0, none⟩ = some (.map a0) ∧ w.cell? ⟨s, 1, none⟩ = some (.map a1) ∧ w.cell? ⟨s, 2, none⟩ = some (.map a2) ∧ w.cell? ⟨s + 1, 0, none⟩ = some (.map b0) ∧ w.cell? ⟨s + 1, 1, none⟩ = some (.map b1) ∧ w.cell? ⟨s + 1, 2, none⟩ = some (.map b2) :=
 ⟨h.j.c0, h.j.c1, hk.c0, hk.c1, h.a.c0, h.a.c1, h.a.c2, h.b.c0, h.b.c1, h.b.c2⟩
theorem JF.mono {w : World} {B c c' : Nat} {J : List Lf} {z : List Ky} {N : List Ky → Option (Nat × Nat)} {x0 : Nat × Nat} (h : JF w B J z N c x0) (hc : c ≤ c') : JF w B J z N c' x0 := ⟨h.tre.mono hc, h.root, h.there⟩
def livV (n : Nat) (o : Option (Nat × Nat)) : Value := .agg #[.map (mF o), .map (mS o), .map (some n)]
def JQ (J : List Lf) (z : List Ky) (c : Nat) (w : World) (e : Ending) (w' : World) : Prop := (∃ x0 N', e = .returned (.agg #[.map (some x0.1), .map (some x0.2)]) ∧ JF w' w.heap.size J z N' c x0) ∧ Below w.heap.size w w'
def HasAt (v0 : World) (n : Nat) (h : Dt → Bool) : Prop := ∀ w, Below v0.heap.size v0 w → ∀ r q kl, keyOf Tryz.prog 55 (dtV (r, q)) = some kl → Calls Tryz.prog 105 #[.map (some n), .agg #[.int .i64 r, .int .i64 q]] w fun e w'' => e = .returned (.bool (h (r, q))) ∧ Below w.heap.size w w''
structure JH (v0 : World) (Na Nb : List Ky → Option (Nat × Nat)) (MA MB : List Ky → Dt → Option ByteArray) (ca cb na nb : Nat) (hA hB : Dt → Bool) (J : List Lf) : Prop where
 ta : Tre v0 0 Na MA ca
 tb : Tre v0 0 Nb MB cb
 ha : HasAt v0 na hA
 hb : HasAt v0 nb hB
 hJ : ∀ z, kmF (MB z) (MA z) hA (kmF (MA z) (MB z) hB (fun _ => none)) = Mk J J.length z
 hAh : ∀ z y, Ah J (z ++ [y]) → Na (z ++ [y]) ≠ none ∨ Nb (z ++ [y]) ≠ none
theorem MO.ltv {α β : Type} {w : World} {t : TypeId} {kv : α → Value} {vo : Option β → Value} {mo : Option Nat} {c k : Nat} {f : α → Option β} (h : MO w t kv vo mo c f) (hk : w.heap.size ≤ k) : mo ≠ some k := fun e => by have := h.lt k e; omega
theorem Rng.nomap {α β : Type} {w : World} {t : TypeId} {kv : α → Value} {vo : Option β → Value} {mo : Option Nat} {r c cnt : Nat} {f : α → Option β} {ds : List α} (h : Rng w t kv vo mo r c f ds cnt) : ∀ es cl, w.heap[r]? ≠ some (.map es cl) := by
 intro es cl e
 cases mo with
 | none => rw [h.1] at e; cases e
 | some b =>
  obtain ⟨D, left, ⟨es', clock, since, seen, c0, hb, F, hs, hD, hr', rest⟩, h2, h3⟩ := h
  rw [hr'] at e; cases e
theorem joinStep {v0 : World} {Na Nb : List Ky → Option (Nat × Nat)} {MA MB : List Ky → Dt → Option ByteArray} {ca cb na nb : Nat} {hA hB : Dt → Bool} {J : List Lf} (H : JH v0 Na Nb MA MB ca cb na nb hA hB J) (z : List Ky) (c' : Nat) (hc : ca + cb ≤ c') (hc2 : c' + (ca + cb) ≤ 1048576)
  (hIH : ∀ y, (Na (z ++ [y]) ≠ none ∨ Nb (z ++ [y]) ≠ none) → ∀ w, Below v0.heap.size v0 w → Calls Tryz.prog 93 #[livV na (Na (z ++ [y])), livV nb (Nb (z ++ [y]))] w (JQ J (z ++ [y]) c' w))
  (w : World) (hw : Below v0.heap.size v0 w) :
  Calls Tryz.prog 93 #[livV na (Na z), livV nb (Nb z)] w (JQ J z (c' + (ca + cb)) w) := by
 have HMA := hid (H.ta.mo_marks z)
 have HMB := hid (H.tb.mo_marks z)
 have HKA := hid (H.ta.mo_kids z)
 have HKB := hid (H.tb.mo_kids z)
 have HUA : Hid (∀ (s : ByteArray) (k : Int) (kl : Lit) (w : World), Below v0.heap.size v0 w → keyOf Tryz.prog 140 (keyV (s, k)) = some kl → Calls Tryz.prog 111 #[livV na (Na z), .agg #[.string s, .int .i64 k]] w fun e w' => e = .returned (livV na (Na (z ++ [(s, k)]))) ∧ Below w.heap.size w w') := hid (fun s k kl w hw hk => underC z s k (some na) 0 ca Na MA w kl hk (H.ta.below hw))
 have HUB : Hid (∀ (s : ByteArray) (k : Int) (kl : Lit) (w : World), Below v0.heap.size v0 w → keyOf Tryz.prog 140 (keyV (s, k)) = some kl → Calls Tryz.prog 111 #[livV nb (Nb z), .agg #[.string s, .int .i64 k]] w fun e w' => e = .returned (livV nb (Nb (z ++ [(s, k)]))) ∧ Below w.heap.size w w') := hid (fun s k kl w hw hk => underC z s k (some nb) 0 cb Nb MB w kl hk (H.tb.below hw))
 have HIH := hid hIH
 have HH := hid H
 have HV := hid hw
 have HC := hid (And.intro hc hc2)
 unfold livV at HUA HUB HIH ⊢
 obtain ⟨a0, ha0⟩ : ∃ u, mF (Na z) = u := ⟨_, rfl⟩
 obtain ⟨a1, ha1⟩ : ∃ u, mS (Na z) = u := ⟨_, rfl⟩
 obtain ⟨b0, hb0⟩ : ∃ u, mF (Nb z) = u := ⟨_, rfl⟩
 obtain ⟨b1, hb1⟩ : ∃ u, mS (Nb z) = u := ⟨_, rfl⟩
 rw [ha0, ha1] at HUA ⊢
 rw [hb0, hb1] at HUB ⊢
 rw [ha1] at HMA
 rw [hb1] at HMB
 rw [ha0] at HKA
 rw [hb0] at HKB
 clear ha0 ha1 hb0 hb1 H hIH hw hc hc2
 obtain ⟨W, hW⟩ : ∃ W, ((w.alloc (.cells #[.map a0, .map a1, .map (some na)] 68)).alloc (.cells #[.map b0, .map b1, .map (some nb)] 68)).alloc (.cells #[.map none, .map none] 64) = W := ⟨_, rfl⟩
 have B0 : Below w.heap.size w W := by rw [← hW]; exact (below2 _ _ _).alloc (by simp; omega) _
 have X0 : Bx3 W w.heap.size (.map a0) (.map a1) (.map (some na)) := by
  rw [← hW]
  exact ((Bx3.made w _ _ _ _).below ((Below.refl _ _).alloc (Nat.le_refl _) _) (Bx3.made w _ _ _ _).lt).below ((Below.refl _ _).alloc (Nat.le_refl _) _) (by simp; omega)
 have X1 : Bx3 W (w.heap.size + 1) (.map b0) (.map b1) (.map (some nb)) := by
  rw [← hW]
  have := Bx3.made (w.alloc (.cells #[.map a0, .map a1, .map (some na)] 68)) (.map b0) (.map b1) (.map (some nb)) 68
  exact (by simpa using this : Bx3 _ (w.heap.size + 1) _ _ _).below ((Below.refl _ _).alloc (Nat.le_refl _) _) (by simp)
 have X2 : Bx2 W (w.heap.size + 1 + 1) (.map none) (.map none) := by
  rw [← hW]
  simpa using Bx2.made ((w.alloc (.cells #[.map a0, .map a1, .map (some na)] 68)).alloc (.cells #[.map b0, .map b1, .map (some nb)] 68)) (.map none) (.map none) 64
 have HX := hid (And.intro X0 (And.intro X1 X2))
 have HB0 := hid B0
 have HWS : Hid (W.heap.size = w.heap.size + 3) := hid (by rw [← hW]; simp)
 clear B0 X0 X1 X2
 go_enter Tryz.func93, Tryz.ntmps93
 go_wp2_with fail
 try rw [hW]
 clear hW
 refine (newNode W).mono ?_
 rintro e w1 ⟨s, s', rfl, hne, hs, hs', m1, m2, b1w⟩
 obtain ⟨x0, rfl, rfl⟩ : ∃ x0 : Nat × Nat, x0.1 = s ∧ x0.2 = s' := ⟨(s, s'), rfl, rfl⟩
 obtain ⟨w2, hw2⟩ : ∃ w2, w1.alloc (.cells #[.map (some x0.1), .map (some x0.2)] 64) = w2 := ⟨_, rfl⟩
 have b2 : Below w1.heap.size w1 w2 := by rw [← hw2]; exact (Below.refl _ _).alloc (Nat.le_refl _) _
 have B12 := keepS b1w b2
 have JB2 : JB w2 w.heap.size w1.heap.size a0 a1 (some na) b0 b1 (some nb) x0 := ⟨HX.out.1.below B12 HX.out.1.lt, HX.out.2.1.below B12 HX.out.2.1.lt, HX.out.2.2.below B12 HX.out.2.2.lt, by rw [← hw2]; exact Bx2.made _ _ _ _⟩
 have HWV : Hid (Below v0.heap.size v0 W) := hid (HV.out.trans (HB0.out.mono HV.out.size))
 have V2 : Below v0.heap.size v0 w2 := HWV.out.trans (B12.mono HWV.out.size)
 have HK2 := hid (MapF.same m1 (b2.block _ m1.lt))
 have HX0 : Hid (x0.1 < w1.heap.size ∧ x0.2 < w1.heap.size ∧ x0.1 ≠ x0.2 ∧ w.heap.size + 3 ≤ x0.1 ∧ w.heap.size + 3 ≤ x0.2 ∧ v0.heap.size ≤ x0.1 ∧ v0.heap.size ≤ x0.2) := hid (by
  have h1 := HWS.out
  have h2 := HWV.out.size
  exact ⟨m1.lt, m2.lt, hne, by omega, by omega, by omega, by omega⟩)
 have HNA : Hid (a1 ≠ some x0.2 ∧ b1 ≠ some x0.2 ∧ a0 ≠ some x0.1 ∧ b0 ≠ some x0.1) := hid ⟨HMA.out.ltv HX0.out.2.2.2.2.2.2, HMB.out.ltv HX0.out.2.2.2.2.2.2, HKA.out.ltv HX0.out.2.2.2.2.2.1, HKB.out.ltv HX0.out.2.2.2.2.2.1⟩
 have HKM1 := hid (keepMarksC a0 a1 b0 b1 (some x0.1) (some na) x0.2 nb ca cb 0 (MA z) (MB z) (fun _ => none) hB w2 (HMA.out.below V2 (fun b e => HMA.out.lt b e)) (HMB.out.below V2 (fun b e => HMB.out.lt b e)) (MapF.same m2 (b2.block _ m2.lt)) HNA.out.1 HNA.out.2.1 (by have := HC.out; omega)
  (fun w' hg => HH.out.hb w' (V2.grown hg V2.size (fun k e => by cases e; exact HX0.out.2.2.2.2.2.2))))
 have p0 := JB2.a.c0
 have p1 := JB2.a.c1
 have p2 := JB2.a.c2
 have p3 := JB2.b.c0
 have p4 := JB2.b.c1
 have p5 := JB2.b.c2
 have p6 := JB2.j.c0
 have p7 := JB2.j.c1
 have HJB2 := hid JB2
 have HV2 := hid V2
 have HB2 := hid (HB0.out.trans (B12.mono HB0.out.size))
 have HS12 : Hid (w1.heap.size < w2.heap.size) := hid (by rw [← hw2]; simp)
 clear JB2 V2 b2 B12 hne hs hs' m1 m2 b1w
 go_wp2_with fail
 try rw [hw2]
 clear hw2
 refine HKM1.out.mono ?_
 rintro e w3 ⟨rfl, m3, g3⟩
 have nr : ∀ k, some x0.2 = some k → k ≠ w.heap.size ∧ k ≠ w.heap.size + 1 ∧ k ≠ w.heap.size + 1 + 1 ∧ k ≠ w1.heap.size := fun k e => by
  have h1 := HX0.out
  injection e with e
  omega
 have JB3 := HJB2.out.gr g3 nr
 have V3 : Below v0.heap.size v0 w3 := HV2.out.grown g3 HV2.out.size (fun k e => by cases e; exact HX0.out.2.2.2.2.2.2)
 have HKM2 := hid (keepMarksC b0 b1 a0 a1 (some x0.1) (some nb) x0.2 na cb ca (0 + ca) (MB z) (MA z) (kmF (MA z) (MB z) hB (fun _ => none)) hA w3 (HMB.out.below V3 (fun b e => HMB.out.lt b e)) (HMA.out.below V3 (fun b e => HMA.out.lt b e)) m3 HNA.out.2.1 HNA.out.1 (by have := HC.out; omega)
  (fun w' hg => HH.out.ha w' (V3.grown hg V3.size (fun k e => by cases e; exact HX0.out.2.2.2.2.2.2))))
 clear p0 p1 p2 p3 p4 p5 p6 p7
 have p0 := JB3.a.c0
 have p1 := JB3.a.c1
 have p2 := JB3.a.c2
 have p3 := JB3.b.c0
 have p4 := JB3.b.c1
 have p5 := JB3.b.c2
 have p6 := JB3.j.c0
 have p7 := JB3.j.c1
 have HJB3 := hid JB3
 have HV3 := hid V3
 have HG3 := hid g3
 have HNR := hid nr
 clear JB3 V3 m3 g3 HKM1 nr
 go_wp2_with fail
 refine HKM2.out.mono ?_
 rintro e w4 ⟨rfl, m4, g4⟩
 have JB4 := HJB3.out.gr g4 HNR.out
 have V4 : Below v0.heap.size v0 w4 := HV3.out.grown g4 HV3.out.size (fun k e => by cases e; exact HX0.out.2.2.2.2.2.2)
 have g24 := HG3.out.trans g4
 have HW4 : Hid (Below w.heap.size w w4) := hid (HB2.out.grown g24 HB2.out.size (fun k e => by have := HX0.out; cases e; omega))
 have HS4 : Hid (w1.heap.size < w4.heap.size) := hid (Nat.lt_of_lt_of_le HS12.out g24.size)
 have HJ4 : Hid (JT w4 w.heap.size J z (fun _ => False) (fun r => if r = [] then some x0 else none) c' x0) := hid ((JT.start (MapF.same HK2.out (g24.block _ (Nat.lt_trans HX0.out.1 HS12.out) (fun e => HX0.out.2.2.1 (by injection e)))) (by rw [← HH.out.hJ z]; exact m4) HX0.out.2.2.1 (by have := HX0.out; omega)).mono (by have := HC.out; omega))
 clear p0 p1 p2 p3 p4 p5 p6 p7
 have p0 := JB4.a.c0
 have HJB4 := hid JB4
 have HV4 := hid V4
 have HKA4 := hid (HKA.out.below V4 (fun b e => HKA.out.lt b e))
 have HNE : Hid (∀ k, some x0.1 = some k → k ≠ w.heap.size ∧ k ≠ w.heap.size + 1 ∧ k ≠ w.heap.size + 1 + 1 ∧ k ≠ w1.heap.size) := hid (fun k e => by
  have h1 := HX0.out
  injection e with e
  omega)
 have HSZ : Hid (w.heap.size ≤ w4.heap.size) := hid HW4.out.size
 have HAL : Hid (∀ b, a0 = some b → b < v0.heap.size) := hid (fun b e => HKA.out.lt b e)
 have HBL : Hid (∀ b, b0 = some b → b < v0.heap.size) := hid (fun b e => HKB.out.lt b e)
 clear JB4 V4 m4 g4 g24 HKM2 HG3 HV2 HV3 HJB2 HJB3 HK2 HB2 HS12
 go_wp2_with (at_range; refine wpList_range_O _ rfl _ 61 rfl 140 64 keyKeyed Tryz.underlying61 keyV nodV a0 ca (fun y => Na (z ++ [y])) rfl HKA4.out ?_; intro w0 cnt0 hrg0 hg0 hs0)
 have HG1 : Hid (w4.grownBy w0 (some x0.1)) := hid (hg0.but _)
 have HJ0 : Hid (JT w0 w.heap.size J z (fun u => u ∈ ([] : List Ky)) (fun r => if r = [] then some x0 else none) (c' + ([] : List Ky).length) x0) := hid ((HJ4.out.kept' (r := w4.heap.size) (hg0.but _) (fun es cl e => by have := (Array.getElem?_eq_some_iff.1 e).1; omega)).congr (fun u => by simp))
 have HJB0 := hid (HJB4.out.gr hg0 (fun k e => by cases e))
 clear hg0 hs0 HJ4 p0
 try go_frame
 go_loopw [] (fun wr => ∃ (ds : List Ky) (cnt : Nat) (N : List Ky → Option (Nat × Nat)), Rng wr 140 keyV nodV a0 w4.heap.size ca (fun y => Na (z ++ [y])) ds cnt ∧ Hid (JT wr w.heap.size J z (fun u => u ∈ ds) N (c' + ds.length) x0) ∧ Hid (JB wr w.heap.size w1.heap.size a0 a1 (some na) b0 b1 (some nb) x0) ∧ Hid (w4.grownBy wr (some x0.1))) (fun wr => wr.rangeLeft (a0.getD 0) w4.heap.size)
 case atStart => exact ⟨[], _, _, hrg0, HJ0, HJB0, HG1⟩
 case round =>
  clear hrg0 HJ0 HG1 HJB0
  obtain ⟨ds, cnt, N, hrg, HJR, HJBR, HGR⟩ := hrel
  have HRG0 := hid hrg
  go_wp2_with (at_next; refine wpList_next_O _ rfl _ rfl 140 keyKeyed keyV (fun _ _ => keyV_inj) (fun key kl hk => keyOf_key hk) nodV a0 w4.heap.size ca (fun y => Na (z ++ [y])) ds cnt rfl hrg ?_ ?_)
  ·intro hk
   have HKD := hid hk
   have HDL : Hid (ds.length ≤ ca) := hid (by have := HRG0.out.len; omega)
   obtain ⟨V, hV⟩ : ∃ V, V = wr := ⟨_, rfl⟩
   subst hV
   have V5 : Below v0.heap.size v0 V := HV4.out.grown HGR.out HV4.out.size (fun k e => by have := HX0.out; cases e; omega)
   have HVV := hid V5
   have HWV2 : Hid (Below w.heap.size w V) := hid (HW4.out.grown HGR.out HW4.out.size (fun k e => by have := HX0.out; cases e; omega))
   have HSV : Hid (w1.heap.size < V.heap.size) := hid (Nat.lt_of_lt_of_le HS4.out HGR.out.size)
   have HSZ2 : Hid (w.heap.size ≤ V.heap.size) := hid HWV2.out.size
   have HKB5 := hid (HKB.out.below V5 (fun b e => HKB.out.lt b e))
   have p0 := HJBR.out.b.c0
   clear hk hrg V5 HRG0 HSZ
   go_wp2_with (at_range; refine wpList_range_O _ rfl _ 61 rfl 140 64 keyKeyed Tryz.underlying61 keyV nodV b0 cb (fun y => Nb (z ++ [y])) rfl HKB5.out ?_; intro w0 cnt0 hrg0 hg0 hs0)
   have HG1 : Hid (V.grownBy w0 (some x0.1)) := hid (hg0.but _)
   have HJ0 : Hid (JT w0 w.heap.size J z (fun u => u ∈ ds ∨ u ∈ ([] : List Ky)) N (c' + ds.length + ([] : List Ky).length) x0) := hid ((HJR.out.kept' (r := V.heap.size) (hg0.but _) (fun es cl e => by have := (Array.getElem?_eq_some_iff.1 e).1; omega)).congr (fun u => by simp))
   have HJB0 := hid (HJBR.out.gr hg0 (fun k e => by cases e))
   clear hg0 hs0 p0
   try go_frame
   clear HGR HJR HJBR
   go_loopw [] (fun wr => ∃ (ds2 : List Ky) (cnt : Nat) (N : List Ky → Option (Nat × Nat)), Rng wr 140 keyV nodV b0 V.heap.size cb (fun y => Nb (z ++ [y])) ds2 cnt ∧ Hid (JT wr w.heap.size J z (fun u => u ∈ ds ∨ u ∈ ds2) N (c' + ds.length + ds2.length) x0) ∧ Hid (JB wr w.heap.size w1.heap.size a0 a1 (some na) b0 b1 (some nb) x0) ∧ Hid (V.grownBy wr (some x0.1))) (fun wr => wr.rangeLeft (b0.getD 0) V.heap.size)
   case atStart => exact ⟨[], _, _, hrg0, HJ0, HJB0, HG1⟩
   case round =>
    clear hrg0 HJ0 HG1 HJB0
    obtain ⟨ds2, cnt, N, hrg, HJR, HJBR, HGR⟩ := hrel
    have HRG0 := hid hrg
    go_wp2_with (at_next; refine wpList_next_O _ rfl _ rfl 140 keyKeyed keyV (fun _ _ => keyV_inj) (fun key kl hk => keyOf_key hk) nodV b0 V.heap.size cb (fun y => Nb (z ++ [y])) ds2 cnt rfl hrg ?_ ?_)
    ·intro hk
     have HE : Hid (JF wr w.heap.size J z N (c' + (ca + cb)) x0) := hid ((HJR.out.full (fun y hy => by
      rcases HH.out.hAh z y hy with h | h
      ·exact .inl ((HKD.out.2 y).2 h)
      ·exact .inr ((hk.2 y).2 h))).mono (by have h1 := HRG0.out.len; have h2 := HDL.out; omega))
     have HE2 : Hid (Below w.heap.size w wr) := hid (HWV2.out.grown HGR.out HWV2.out.size (fun k e => by have := HX0.out; cases e; omega))
     have r0 := HJBR.out.r.c0
     have r1 := HJBR.out.r.c1
     have f0 := HJBR.out.r.f 0
     have f1 := HJBR.out.r.f 1
     have j0 := HJBR.out.j.c0
     have j1 := HJBR.out.j.c1
     have HC9 := hid (HJBR.out.r.set (.map (some x0.1)) (.map (some x0.2)))
     clear hk hrg
     go_wp2_with fail
     have s0 := HC9.out.c0
     have s1 := HC9.out.c1
     refine bodyPost_ret (v := .agg #[.map (some x0.1), .map (some x0.2)]) (by simp [results, Tryz.results93, go_sem, s0, s1]) rfl ⟨⟨x0, N, rfl, ?_⟩, ?_⟩
     ·have hb := HJBR.out.r
      exact ⟨(HE.out.tre.set _ hb.c0).set (v := .map none) _ (by simp [World.cell?_setCell_other, hb.c1]), HE.out.root, HE.out.there⟩
     ·exact (HE2.out.setCell (by simp; omega) _).setCell (by simp; omega) _
    ·intro xs xk yv1 yv2 w5 cnt2 bm hma hfx hnx kl hkl hrg2 hlt2 hg2 hs2 hen
     have HPR : Hid (Na (z ++ [(xs, xk)]) ≠ none ∨ Nb (z ++ [(xs, xk)]) ≠ none) := hid (Or.inr (by rw [show Nb (z ++ [(xs, xk)]) = _ from hfx]; simp))
     have HKL := hid hkl
     have HCC : Hid (c' + ds.length + ds2.length < 1048576) := hid (by have h1 := HRG0.out.len; have h2 := HC.out; have h3 := HDL.out; omega)
     have HML : Hid (∀ w9, Rng w9 140 keyV nodV b0 V.heap.size cb (fun y => Nb (z ++ [y])) (ds2 ++ [(xs, xk)]) cnt2 → w9.rangeLeft (b0.getD 0) V.heap.size < wr.rangeLeft (b0.getD 0) V.heap.size) := hid (fun w9 h9 => by
      have h1 := HRG0.out
      rw [hma] at h9 h1 ⊢
      show w9.rangeLeft bm _ < wr.rangeLeft bm _
      rw [h9.left_eq, h1.left_eq]; exact hlt2)
     have HNX := hid hnx
     have HG5 : Hid (V.grownBy w5 (some x0.1)) := hid (HGR.out.andThen hg2 (fun j e => by cases e; exact .inl (Nat.le_refl _)))
     have HJ5 := hid (HJR.out.kept' hg2 HRG0.out.nomap)
     have HJB5 := hid (HJBR.out.gr hg2 (fun k e => by have h1 := HSV.out; have h2 := HX0.out; cases e; omega))
     have HR5 := hid hrg2
     obtain ⟨w51, hw51⟩ : ∃ w51, w5.alloc (.cells #[.string xs, .int .i64 xk] 140) = w51 := ⟨_, rfl⟩
     have b51 : Below w5.heap.size w5 w51 := by rw [← hw51]; exact (Below.refl _ _).alloc (Nat.le_refl _) _
     have HK51 : Hid (Bx2 w51 w5.heap.size (.string xs) (.int .i64 xk)) := hid (by rw [← hw51]; exact Bx2.made _ _ _ _)
     have HJB51 := hid (HJB5.out.below b51)
     have HG51 : Hid (V.grownBy w51 (some x0.1)) := hid (HG5.out.trans (below_gr b51 _))
     have HV51 : Hid (Below v0.heap.size v0 w51) := hid (HVV.out.grown HG51.out HVV.out.size (fun k e => by have := HX0.out; cases e; omega))
     have hlk := (HKA.out.below HV51.out (fun b e => HKA.out.lt b e)).look_ok keyKeyed Tryz.underlying61 (zeroNode w51) (x := (xs, xk)) HKL.out
     have q0 := HJB51.out.a.c0
     have q1 := HK51.out.c0
     have q2 := HK51.out.c1
     have HB51 := hid b51
     clear hfx hnx hkl hrg hrg2 hlt2 hg2 hs2 hma b51
     dsimp only [keyV, nodV] at hen hlk ⊢
     cases hna : Na (z ++ [(xs, xk)]) with
     | some y9 =>
      rw [hna] at hlk
      obtain ⟨w6, hw6⟩ : ∃ w6, w51.alloc (.cells #[.map (some y9.1), .map (some y9.2)] 64) = w6 := ⟨_, rfl⟩
      have b6 : Below w51.heap.size w51 w6 := by rw [← hw6]; exact (Below.refl _ _).alloc (Nat.le_refl _) _
      have B6 := keepS HB51.out b6
      have HR6 := hid (HR5.out.same (fun b e => B6.block b (HR5.out.mlt b e)) (B6.block _ HR5.out.lt))
      have HJ6 := hid (HJ5.out.below B6)
      have HJB6 := hid (HJB51.out.below b6)
      have HG6 : Hid (V.grownBy w6 (some x0.1)) := hid (HG51.out.trans (below_gr b6 _))
      have HIY : Hid ((xs, xk) ∈ ds) := hid ((HKD.out.2 _).2 (by show Na (z ++ [(xs, xk)]) ≠ none; rw [hna]; simp))
      clear hna b6 B6
      dsimp only [Option.isSome] at hlk
      go_wp2_with fail
      try rw [hw6]
      go_roundw
      case rel => exact ⟨_, _, N, HR6.out, hid ((HJ6.out.congr (fun u => by
       constructor
       ·rintro (h | h)
        ·exact .inl h
        ·exact .inr (by simp [h])
       ·rintro (h | h)
        ·exact .inl h
        ·rcases List.mem_append.1 h with h | h
         ·exact .inr h
         ·rw [List.mem_singleton.1 h]; exact .inl HIY.out)).mono (by simp)), HJB6, HG6⟩
      case measure => exact HML.out w6 HR6.out
     | none =>
      rw [hna] at hlk
      have HNY : Hid (¬ ((xs, xk) ∈ ds ∨ (xs, xk) ∈ ds2)) := hid (fun h => h.elim (fun h => (HKD.out.2 _).1 h hna) HNX.out)
      obtain ⟨w6, hw6⟩ : ∃ w6, w51.alloc (.cells #[.map none, .map none] 64) = w6 := ⟨_, rfl⟩
      have b6 : Below w51.heap.size w51 w6 := by rw [← hw6]; exact (Below.refl _ _).alloc (Nat.le_refl _) _
      have B6 := keepS HB51.out b6
      have HR6 := hid (HR5.out.same (fun b e => B6.block b (HR5.out.mlt b e)) (B6.block _ HR5.out.lt))
      have HJ6 := hid (HJ5.out.below B6)
      have HJB6 := hid (HJB51.out.below b6)
      have HK6 := hid (HK51.out.below b6 HK51.out.lt)
      have HG6 : Hid (V.grownBy w6 (some x0.1)) := hid (HG51.out.trans (below_gr b6 _))
      have HV6 : Hid (Below v0.heap.size v0 w6) := hid (HV51.out.trans (b6.mono HV51.out.size))
      have HNU : Hid (∀ k, some x0.1 = some k → k ≠ w5.heap.size) := hid (fun k e => by have h1 := HX0.out; have h2 := HSV.out; have h3 := HG5.out.size; cases e; omega)
      have HMN : Hid (∀ b, b0 = some b → some x0.1 ≠ some b) := hid (fun b e h => HNA.out.2.2.2 (by rw [e, h]))
      have HIN : Hid (some x0.1 ≠ some V.heap.size) := hid (fun e => by have h1 := HX0.out; have h2 := HSV.out; injection e with e; omega)
      have HW6 := hid hw6
      clear b6 B6 hna hw6
      dsimp only [Option.isSome] at hlk
      have HSZ := HSZ2
      obtain ⟨ya0, hya0⟩ : ∃ u, mF (Na (z ++ [(xs, xk)])) = u := ⟨_, rfl⟩
      obtain ⟨ya1, hya1⟩ : ∃ u, mS (Na (z ++ [(xs, xk)])) = u := ⟨_, rfl⟩
      obtain ⟨yb0, hyb0⟩ : ∃ u, mF (Nb (z ++ [(xs, xk)])) = u := ⟨_, rfl⟩
      obtain ⟨yb1, hyb1⟩ : ∃ u, mS (Nb (z ++ [(xs, xk)])) = u := ⟨_, rfl⟩
      have HCA : Hid (∀ w1, Below w6.heap.size w6 w1 → Calls Tryz.prog 111 #[.agg #[.map a0, .map a1, .map (some na)], .agg #[.string xs, .int .i64 xk]] w1 fun e w' => e = .returned (.agg #[.map ya0, .map ya1, .map (some na)]) ∧ Below w1.heap.size w1 w') := hid (fun w1 b1 => by have := HUA.out xs xk kl w1 (HV6.out.trans (b1.mono HV6.out.size)) HKL.out; rw [hya0, hya1] at this; exact this)
      have HCB : Hid (∀ w1, Below w6.heap.size w6 w1 → Calls Tryz.prog 111 #[.agg #[.map b0, .map b1, .map (some nb)], .agg #[.string xs, .int .i64 xk]] w1 fun e w' => e = .returned (.agg #[.map yb0, .map yb1, .map (some nb)]) ∧ Below w1.heap.size w1 w') := hid (fun w1 b1 => by have := HUB.out xs xk kl w1 (HV6.out.trans (b1.mono HV6.out.size)) HKL.out; rw [hyb0, hyb1] at this; exact this)
      have HCJ : Hid (∀ w1, Below w6.heap.size w6 w1 → Calls Tryz.prog 93 #[.agg #[.map ya0, .map ya1, .map (some na)], .agg #[.map yb0, .map yb1, .map (some nb)]] w1 (JQ J (z ++ [(xs, xk)]) c' w1)) := hid (fun w1 b1 => by have := HIH.out (xs, xk) HPR.out w1 (HV6.out.trans (b1.mono HV6.out.size)); rw [hya0, hya1, hyb0, hyb1] at this; exact this)
      have HSE : Hid (∀ w', Below w6.heap.size w6 w' → (w'.cell? ⟨w1.heap.size, 0, none⟩ = some (.map (some x0.1)) ∧ w'.cell? ⟨w1.heap.size, 1, none⟩ = some (.map (some x0.2)) ∧ w'.cell? ⟨w5.heap.size, 0, none⟩ = some (.string xs) ∧ w'.cell? ⟨w5.heap.size, 1, none⟩ = some (.int .i64 xk) ∧ w'.cell? ⟨w.heap.size, 0, none⟩ = some (.map a0) ∧ w'.cell? ⟨w.heap.size, 1, none⟩ = some (.map a1) ∧ w'.cell? ⟨w.heap.size, 2, none⟩ = some (.map (some na)) ∧ w'.cell? ⟨w.heap.size + 1, 0, none⟩ = some (.map b0) ∧ w'.cell? ⟨w.heap.size + 1, 1, none⟩ = some (.map b1) ∧ w'.cell? ⟨w.heap.size + 1, 2, none⟩ = some (.map (some nb)))) := hid (fun w1 b1 => (HJB6.out.below b1).sees (HK6.out.below b1 HK6.out.lt))
      have HHG : Hid (∀ w9 x1 N1, Below w6.heap.size w6 w9 → ∀ B, JF w9 B J (z ++ [(xs, xk)]) N1 c' x1 → Calls Tryz.prog 110 #[.agg #[.map (some x0.1), .map (some x0.2)], .agg #[.string xs, .int .i64 xk], .agg #[.map (some x1.1), .map (some x1.2)]] w9 fun e w' => e = .returned (.tuple #[]) ∧ w9.grownBy w' (some x0.1) ∧
        (Bears (fun u => N1 [u]) (Mk J J.length (z ++ [(xs, xk)])) → MapF w' 140 keyV nodV x0.1 (c' + ds.length + ds2.length + 1) (updF (fun u => N [u]) (xs, xk) (some x1))) ∧ (¬ Bears (fun u => N1 [u]) (Mk J J.length (z ++ [(xs, xk)])) → Below w9.heap.size w9 w')) := hid (fun w9 x1 N1 b9 B h1 => by
       have hj := HJ6.out.below b9
       have h1' := h1.mono (show c' ≤ c' + ds.length + ds2.length by omega)
       exact hangC x0 x1 xs xk (c' + ds.length + ds2.length) (fun u => N [u]) (fun u => N1 [u]) (Mk J J.length (z ++ [(xs, xk)])) w9 kl HKL.out (hj.tre.kids [] x0 hj.root) (h1'.tre.kids [] x1 h1'.root) ((h1'.tre.marks [] x1 h1'.root).ext fun d => by simp) HCC.out)
      clear hya0 hya1 hyb0 hyb1
      go_wp2_with fail
      rw [HW6.out]
      refine wp_region_held_drew (S := fun w' => w'.cell? ⟨w1.heap.size, 0, none⟩ = some (.map (some x0.1)) ∧ w'.cell? ⟨w1.heap.size, 1, none⟩ = some (.map (some x0.2)) ∧ w'.cell? ⟨w5.heap.size, 0, none⟩ = some (.string xs) ∧ w'.cell? ⟨w5.heap.size, 1, none⟩ = some (.int .i64 xk) ∧ w'.cell? ⟨w.heap.size, 0, none⟩ = some (.map a0) ∧ w'.cell? ⟨w.heap.size, 1, none⟩ = some (.map a1) ∧ w'.cell? ⟨w.heap.size, 2, none⟩ = some (.map (some na)) ∧ w'.cell? ⟨w.heap.size + 1, 0, none⟩ = some (.map b0) ∧ w'.cell? ⟨w.heap.size + 1, 1, none⟩ = some (.map b1) ∧ w'.cell? ⟨w.heap.size + 1, 2, none⟩ = some (.map (some nb))) (by kernel_rfl) (HSE.out _ (Below.refl _ _).drew) (fun hHeld => ?_)
      refine tk 0 55 ?_ (by kernel_rfl) (fun _ _ _ h => h) ?_ hHeld (tk 1 56 ?_ (by kernel_rfl) (fun _ _ _ h => h) ?_ hHeld (tk 2 57 ?_ (by kernel_rfl) (fun _ _ _ h => h) ?_ hHeld (tk 3 58 ?_ (by kernel_rfl) (fun _ _ _ h => h) ?_ hHeld (tk 5 60 ?_ (by kernel_rfl) (fun _ _ _ h => h) ?_ hHeld ?_))))
      iterate 5 (rotate_left; focus (intro o ho; simp only [gZa, gZb, gZc, gZd] at ho; subst ho; refine Or.inl ⟨by rfl, ?_⟩; intro w hSw; (try dsimp only at hSw); (try simp only [Act.put, sZa, sZb, sZc]); go_simp; try with_reducible rfl))
      try simp only [Act.put, sZa, sZb, sZc]
      refine tk 6 61 ?_ (by kernel_rfl) (fun _ _ _ h => h) ?_ hHeld ?_
      rotate_left
      ·(intro o ho; simp only [gZa, gZb, gZc, gZd] at ho; subst ho; refine Or.inl ⟨by rfl, ?_⟩; intro w hSw; (try dsimp only at hSw); go_simp; try with_reducible rfl)
      try simp only [Act.put, sZa, sZb, sZc]
      refine call1 (i := 4) (d := some 59) (by kernel_rfl) (by kernel_rfl) ?_
      intro o ho hod K hK; simp only [gZa, gZb, gZc, gZd] at ho; subst ho
      go_simp
      refine (HCA.out _ (Below.refl _ _).drew).mono ?_
      rintro e w7 ⟨rfl, b7⟩
      have b7' : Below w6.heap.size w6 w7 := ⟨b7.os, b7.tape, b7.output, b7.size, b7.block⟩
      refine hK.out _ _ (HSE.out _ b7') (fun hHeld => ?_)
      clear hK K
      try simp only [Act.put, sZa, sZb, sZc]
      refine call1 (i := 7) (d := some 62) (by kernel_rfl) (by kernel_rfl) ?_
      intro o ho hod K hK; simp only [gZa, gZb, gZc, gZd] at ho; subst ho
      go_simp
      refine (HCB.out _ b7').mono ?_
      rintro e w8 ⟨rfl, b8⟩
      have b8' := keepS b7' b8
      refine hK.out _ _ (HSE.out _ b8') (fun hHeld => ?_)
      clear hK K
      try simp only [Act.put, sZa, sZb, sZc]
      refine call1 (i := 8) (d := some 63) (by kernel_rfl) (by kernel_rfl) ?_
      intro o ho hod K hK; simp only [gZa, gZb, gZc, gZd] at ho; subst ho
      go_simp
      refine (HCJ.out _ b8').mono ?_
      rintro e w9 ⟨⟨x1, N1, rfl, h1⟩, b9⟩
      have b9' := keepS b8' b9
      refine hK.out _ _ (HSE.out _ b9') (fun hHeld => ?_)
      clear hK K
      try simp only [Act.put, sZa, sZb, sZc]
      have HH1 := hid h1
      clear h1
      refine call1 (i := 9) (d := some 64) (by kernel_rfl) (by kernel_rfl) ?_
      intro o ho hod K hK; simp only [gZa, gZb, gZc, gZd] at ho; subst ho
      go_simp
      refine (HHG.out w9 x1 N1 b9' _ HH1.out).mono ?_
      rintro e w10 ⟨rfl, g10, hm10, hn10⟩
      have HJB10 := hid ((HJB6.out.below b9').gr g10 HNE.out)
      refine hK.out _ _ (HJB10.out.sees ((HK6.out.below b9' HK6.out.lt).gr g10 HNU.out)) (fun hHeld => ?_)
      clear hK K
      try simp only [Act.put, sZa, sZb, sZc]
      refine wpAnyH_done (by kernel_rfl) ?_ _
      obtain ⟨N10, hJ10⟩ := (HJ6.out.below b8').round b9 (HH1.out.mono (show c' ≤ c' + ds.length + ds2.length by omega)) (Nat.le_trans (Nat.le_trans HSZ.out HG6.out.size) b8'.size) HNY.out g10 hm10 hn10
      have HG10 : Hid (V.grownBy w10 (some x0.1)) := hid ((HG6.out.trans (below_gr b9' _)).trans g10)
      have HR10 := hid ((HR6.out.same (fun b e => b9'.block b (HR6.out.mlt b e)) (b9'.block _ HR6.out.lt)).kept g10 HMN.out HIN.out)
      have HJ10 := hid hJ10
      clear hHeld b7 b7' b8 b8' b9 b9' g10 hm10 hn10 hJ10 HSE HCA HCB HCJ HHG HH1
      go_wp2_with fail
      go_roundw
      case rel => exact ⟨_, _, _, HR10.out, hid (by simpa [Nat.add_assoc] using HJ10.out.congr (fun u => by simp [or_assoc])), HJB10, HG10⟩
      case measure => exact HML.out w10 HR10.out
  ·intro xs xk yv1 yv2 w5 cnt2 bm hma hfx hnx kl hkl hrg2 hlt2 hg2 hs2 hen
   have HPR : Hid (Na (z ++ [(xs, xk)]) ≠ none ∨ Nb (z ++ [(xs, xk)]) ≠ none) := hid (Or.inl (by rw [show Na (z ++ [(xs, xk)]) = _ from hfx]; simp))
   have HNY : Hid (¬ (xs, xk) ∈ ds) := hid hnx
   have HKL := hid hkl
   have HCC : Hid (c' + ds.length < 1048576) := hid (by have h1 := HRG0.out.len; have h2 := HC.out; omega)
   have HML : Hid (∀ w9, Rng w9 140 keyV nodV a0 w4.heap.size ca (fun y => Na (z ++ [y])) (ds ++ [(xs, xk)]) cnt2 → w9.rangeLeft (a0.getD 0) w4.heap.size < wr.rangeLeft (a0.getD 0) w4.heap.size) := hid (fun w9 h9 => by
    have h1 := HRG0.out
    rw [hma] at h9 h1 ⊢
    show w9.rangeLeft bm _ < wr.rangeLeft bm _
    rw [h9.left_eq, h1.left_eq]; exact hlt2)
   have HG5 : Hid (w4.grownBy w5 (some x0.1)) := hid (HGR.out.andThen hg2 (fun j e => by cases e; exact .inl (Nat.le_refl _)))
   have HJ5 := hid (HJR.out.kept' hg2 HRG0.out.nomap)
   have HJB5 := hid (HJBR.out.gr hg2 (fun k e => by have h1 := HS4.out; have h2 := HX0.out; cases e; omega))
   have HR5 := hid hrg2
   obtain ⟨w6, hw6⟩ : ∃ w6, w5.alloc (.cells #[.string xs, .int .i64 xk] 140) = w6 := ⟨_, rfl⟩
   have b6 : Below w5.heap.size w5 w6 := by rw [← hw6]; exact (Below.refl _ _).alloc (Nat.le_refl _) _
   have HK6 : Hid (Bx2 w6 w5.heap.size (.string xs) (.int .i64 xk)) := hid (by rw [← hw6]; exact Bx2.made _ _ _ _)
   have HR6 := hid (HR5.out.same (fun b e => b6.block b (HR5.out.mlt b e)) (b6.block _ HR5.out.lt))
   have HJ6 := hid (HJ5.out.below b6)
   have HJB6 := hid (HJB5.out.below b6)
   have HG6 : Hid (w4.grownBy w6 (some x0.1)) := hid (HG5.out.trans (below_gr b6 _))
   have HV6 : Hid (Below v0.heap.size v0 w6) := hid (HV4.out.grown HG6.out HV4.out.size (fun k e => by have := HX0.out; cases e; omega))
   have HNU : Hid (∀ k, some x0.1 = some k → k ≠ w5.heap.size) := hid (fun k e => by have h1 := HX0.out; have h2 := HS4.out; have h3 := HG5.out.size; cases e; omega)
   have HMN : Hid (∀ b, a0 = some b → some x0.1 ≠ some b) := hid (fun b e h => HNA.out.2.2.1 (by rw [e, h]))
   have HIN : Hid (some x0.1 ≠ some w4.heap.size) := hid (fun e => by have h1 := HX0.out; have h2 := HS4.out; injection e with e; omega)
   clear hfx hnx hkl hrg hrg2 hlt2 hg2 hs2 hma b6
   dsimp only [keyV, nodV] at hen ⊢
   obtain ⟨ya0, hya0⟩ : ∃ u, mF (Na (z ++ [(xs, xk)])) = u := ⟨_, rfl⟩
   obtain ⟨ya1, hya1⟩ : ∃ u, mS (Na (z ++ [(xs, xk)])) = u := ⟨_, rfl⟩
   obtain ⟨yb0, hyb0⟩ : ∃ u, mF (Nb (z ++ [(xs, xk)])) = u := ⟨_, rfl⟩
   obtain ⟨yb1, hyb1⟩ : ∃ u, mS (Nb (z ++ [(xs, xk)])) = u := ⟨_, rfl⟩
   have HCA : Hid (∀ w1, Below w6.heap.size w6 w1 → Calls Tryz.prog 111 #[.agg #[.map a0, .map a1, .map (some na)], .agg #[.string xs, .int .i64 xk]] w1 fun e w' => e = .returned (.agg #[.map ya0, .map ya1, .map (some na)]) ∧ Below w1.heap.size w1 w') := hid (fun w1 b1 => by have := HUA.out xs xk kl w1 (HV6.out.trans (b1.mono HV6.out.size)) HKL.out; rw [hya0, hya1] at this; exact this)
   have HCB : Hid (∀ w1, Below w6.heap.size w6 w1 → Calls Tryz.prog 111 #[.agg #[.map b0, .map b1, .map (some nb)], .agg #[.string xs, .int .i64 xk]] w1 fun e w' => e = .returned (.agg #[.map yb0, .map yb1, .map (some nb)]) ∧ Below w1.heap.size w1 w') := hid (fun w1 b1 => by have := HUB.out xs xk kl w1 (HV6.out.trans (b1.mono HV6.out.size)) HKL.out; rw [hyb0, hyb1] at this; exact this)
   have HCJ : Hid (∀ w1, Below w6.heap.size w6 w1 → Calls Tryz.prog 93 #[.agg #[.map ya0, .map ya1, .map (some na)], .agg #[.map yb0, .map yb1, .map (some nb)]] w1 (JQ J (z ++ [(xs, xk)]) c' w1)) := hid (fun w1 b1 => by have := HIH.out (xs, xk) HPR.out w1 (HV6.out.trans (b1.mono HV6.out.size)); rw [hya0, hya1, hyb0, hyb1] at this; exact this)
   have HSE : Hid (∀ w', Below w6.heap.size w6 w' → (w'.cell? ⟨w1.heap.size, 0, none⟩ = some (.map (some x0.1)) ∧ w'.cell? ⟨w1.heap.size, 1, none⟩ = some (.map (some x0.2)) ∧ w'.cell? ⟨w5.heap.size, 0, none⟩ = some (.string xs) ∧ w'.cell? ⟨w5.heap.size, 1, none⟩ = some (.int .i64 xk) ∧ w'.cell? ⟨w.heap.size, 0, none⟩ = some (.map a0) ∧ w'.cell? ⟨w.heap.size, 1, none⟩ = some (.map a1) ∧ w'.cell? ⟨w.heap.size, 2, none⟩ = some (.map (some na)) ∧ w'.cell? ⟨w.heap.size + 1, 0, none⟩ = some (.map b0) ∧ w'.cell? ⟨w.heap.size + 1, 1, none⟩ = some (.map b1) ∧ w'.cell? ⟨w.heap.size + 1, 2, none⟩ = some (.map (some nb)))) := hid (fun w1 b1 => (HJB6.out.below b1).sees (HK6.out.below b1 HK6.out.lt))
   have HHG : Hid (∀ w9 x1 N1, Below w6.heap.size w6 w9 → ∀ B, JF w9 B J (z ++ [(xs, xk)]) N1 c' x1 → Calls Tryz.prog 110 #[.agg #[.map (some x0.1), .map (some x0.2)], .agg #[.string xs, .int .i64 xk], .agg #[.map (some x1.1), .map (some x1.2)]] w9 fun e w' => e = .returned (.tuple #[]) ∧ w9.grownBy w' (some x0.1) ∧
     (Bears (fun u => N1 [u]) (Mk J J.length (z ++ [(xs, xk)])) → MapF w' 140 keyV nodV x0.1 (c' + ds.length + 1) (updF (fun u => N [u]) (xs, xk) (some x1))) ∧ (¬ Bears (fun u => N1 [u]) (Mk J J.length (z ++ [(xs, xk)])) → Below w9.heap.size w9 w')) := hid (fun w9 x1 N1 b9 B h1 => by
    have hj := HJ6.out.below b9
    have h1' := h1.mono (show c' ≤ c' + ds.length by omega)
    exact hangC x0 x1 xs xk (c' + ds.length) (fun u => N [u]) (fun u => N1 [u]) (Mk J J.length (z ++ [(xs, xk)])) w9 kl HKL.out (hj.tre.kids [] x0 hj.root) (h1'.tre.kids [] x1 h1'.root) ((h1'.tre.marks [] x1 h1'.root).ext fun d => by simp) HCC.out)
   clear hya0 hya1 hyb0 hyb1
   go_wp2_with fail
   refine wp_region_held_drew (S := fun w' => w'.cell? ⟨w1.heap.size, 0, none⟩ = some (.map (some x0.1)) ∧ w'.cell? ⟨w1.heap.size, 1, none⟩ = some (.map (some x0.2)) ∧ w'.cell? ⟨w5.heap.size, 0, none⟩ = some (.string xs) ∧ w'.cell? ⟨w5.heap.size, 1, none⟩ = some (.int .i64 xk) ∧ w'.cell? ⟨w.heap.size, 0, none⟩ = some (.map a0) ∧ w'.cell? ⟨w.heap.size, 1, none⟩ = some (.map a1) ∧ w'.cell? ⟨w.heap.size, 2, none⟩ = some (.map (some na)) ∧ w'.cell? ⟨w.heap.size + 1, 0, none⟩ = some (.map b0) ∧ w'.cell? ⟨w.heap.size + 1, 1, none⟩ = some (.map b1) ∧ w'.cell? ⟨w.heap.size + 1, 2, none⟩ = some (.map (some nb))) (by kernel_rfl) (HSE.out _ (Below.refl _ _).drew) (fun hHeld => ?_)
   refine tk 0 27 ?_ (by kernel_rfl) (fun _ _ _ h => h) ?_ hHeld (tk 1 28 ?_ (by kernel_rfl) (fun _ _ _ h => h) ?_ hHeld (tk 2 29 ?_ (by kernel_rfl) (fun _ _ _ h => h) ?_ hHeld (tk 3 30 ?_ (by kernel_rfl) (fun _ _ _ h => h) ?_ hHeld (tk 5 32 ?_ (by kernel_rfl) (fun _ _ _ h => h) ?_ hHeld ?_))))
   iterate 5 (rotate_left; focus (intro o ho; simp only [gZa, gZb, gZc, gZd] at ho; subst ho; refine Or.inl ⟨by rfl, ?_⟩; intro w hSw; (try dsimp only at hSw); (try simp only [Act.put, sZa, sZb, sZc]); go_simp; try with_reducible rfl))
   try simp only [Act.put, sZa, sZb, sZc]
   refine tk 6 33 ?_ (by kernel_rfl) (fun _ _ _ h => h) ?_ hHeld ?_
   rotate_left
   ·(intro o ho; simp only [gZa, gZb, gZc, gZd] at ho; subst ho; refine Or.inl ⟨by rfl, ?_⟩; intro w hSw; (try dsimp only at hSw); go_simp; try with_reducible rfl)
   try simp only [Act.put, sZa, sZb, sZc]
   refine call1 (i := 4) (d := some 31) (by kernel_rfl) (by kernel_rfl) ?_
   intro o ho hod K hK; simp only [gZa, gZb, gZc, gZd] at ho; subst ho
   go_simp
   refine (HCA.out _ (Below.refl _ _).drew).mono ?_
   rintro e w7 ⟨rfl, b7⟩
   have b7' : Below w6.heap.size w6 w7 := ⟨b7.os, b7.tape, b7.output, b7.size, b7.block⟩
   refine hK.out _ _ (HSE.out _ b7') (fun hHeld => ?_)
   clear hK K
   try simp only [Act.put, sZa, sZb, sZc]
   refine call1 (i := 7) (d := some 34) (by kernel_rfl) (by kernel_rfl) ?_
   intro o ho hod K hK; simp only [gZa, gZb, gZc, gZd] at ho; subst ho
   go_simp
   refine (HCB.out _ b7').mono ?_
   rintro e w8 ⟨rfl, b8⟩
   have b8' := keepS b7' b8
   refine hK.out _ _ (HSE.out _ b8') (fun hHeld => ?_)
   clear hK K
   try simp only [Act.put, sZa, sZb, sZc]
   refine call1 (i := 8) (d := some 35) (by kernel_rfl) (by kernel_rfl) ?_
   intro o ho hod K hK; simp only [gZa, gZb, gZc, gZd] at ho; subst ho
   go_simp
   refine (HCJ.out _ b8').mono ?_
   rintro e w9 ⟨⟨x1, N1, rfl, h1⟩, b9⟩
   have b9' := keepS b8' b9
   refine hK.out _ _ (HSE.out _ b9') (fun hHeld => ?_)
   clear hK K
   try simp only [Act.put, sZa, sZb, sZc]
   have HH1 := hid h1
   clear h1
   refine call1 (i := 9) (d := some 36) (by kernel_rfl) (by kernel_rfl) ?_
   intro o ho hod K hK; simp only [gZa, gZb, gZc, gZd] at ho; subst ho
   go_simp
   refine (HHG.out w9 x1 N1 b9' _ HH1.out).mono ?_
   rintro e w10 ⟨rfl, g10, hm10, hn10⟩
   have HJB10 := hid ((HJB6.out.below b9').gr g10 HNE.out)
   refine hK.out _ _ (HJB10.out.sees ((HK6.out.below b9' HK6.out.lt).gr g10 HNU.out)) (fun hHeld => ?_)
   clear hK K
   try simp only [Act.put, sZa, sZb, sZc]
   refine wpAnyH_done (by kernel_rfl) ?_ _
   obtain ⟨N10, hJ10⟩ := (HJ6.out.below b8').round b9 (HH1.out.mono (show c' ≤ c' + ds.length by omega)) (Nat.le_trans (Nat.le_trans HSZ.out HG6.out.size) b8'.size) HNY.out g10 hm10 hn10
   have HG10 : Hid (w4.grownBy w10 (some x0.1)) := hid ((HG6.out.trans (below_gr b9' _)).trans g10)
   have HR10 := hid ((HR6.out.same (fun b e => b9'.block b (HR6.out.mlt b e)) (b9'.block _ HR6.out.lt)).kept g10 HMN.out HIN.out)
   have HJ10 := hid hJ10
   clear hHeld b7 b7' b8 b8' b9 b9' g10 hm10 hn10 hJ10 HSE HCA HCB HCJ HHG HH1
   go_wp2_with fail
   go_roundw
   case rel => exact ⟨_, _, _, HR10.out, hid (by simpa [Nat.add_assoc] using HJ10.out.congr (fun u => by simp)), HJB10, HG10⟩
   case measure => exact HML.out w10 HR10.out
theorem joinTreesC {v0 : World} {Na Nb : List Ky → Option (Nat × Nat)} {MA MB : List Ky → Dt → Option ByteArray} {ca cb na nb : Nat} {hA hB : Dt → Bool} {J : List Lf} (H : JH v0 Na Nb MA MB ca cb na nb hA hB J) (hd : ∀ p, (Na p ≠ none ∨ Nb p ≠ none) → p.length ≤ 8) (hc : 10 * (ca + cb) ≤ 1048576) :
  ∀ d z, z.length + d = 8 → ∀ w, Below v0.heap.size v0 w → Calls Tryz.prog 93 #[livV na (Na z), livV nb (Nb z)] w (JQ J z ((d + 2) * (ca + cb)) w)
 | 0, z, hz, w, hw => by
  have := joinStep H z (ca + cb) (Nat.le_refl _) (by omega) (fun y hy => absurd (hd _ hy) (by simp; omega)) w hw
  rw [show (0 + 2) * (ca + cb) = ca + cb + (ca + cb) by omega]; exact this
 | d + 1, z, hz, w, hw => by
  have e : (d + 2) * (ca + cb) + (ca + cb) = (d + 1 + 2) * (ca + cb) := by rw [show d + 1 + 2 = (d + 2) + 1 by omega, Nat.add_mul (d + 2) 1, Nat.one_mul]
  have l1 : (d + 1 + 2) * (ca + cb) ≤ 10 * (ca + cb) := Nat.mul_le_mul_right _ (by omega)
  have l2 : 1 * (ca + cb) ≤ (d + 2) * (ca + cb) := Nat.mul_le_mul_right _ (by omega)
  rw [← e]
  exact joinStep H z ((d + 2) * (ca + cb)) (by omega) (by omega) (fun y hy => joinTreesC H hd hc d (z ++ [y]) (by simp; omega)) w hw
theorem cW_le (J : List Lf) (z : List Ky) : cW J z ≤ J.length := List.length_filter_le _ _
theorem mW_le (J : List Lf) (z : List Ky) : mW J z ≤ J.length := List.length_filter_le _ _
theorem sum_cW (J : List Lf) (z : List Ky) : ∀ ds : List Ky, (ds.map fun y => cW J (z ++ [y])).sum ≤ ds.length * J.length
 | [] => Nat.zero_le _
 | y :: r => by
  have h1 := sum_cW J z r
  have h2 := cW_le J (z ++ [y])
  simp only [List.map_cons, List.sum_cons, List.length_cons, Nat.add_mul, Nat.one_mul]
  omega
structure TJ (w : World) (B : Nat) (J : List Lf) (N : List Ky → Option (Nat × Nat)) (c : Nat) : Prop where
 tre : Tre w B N (fun r => Mk J J.length r) c
 there : ∀ z y, (N (z ++ [y])).isSome = true ↔ Ah J (z ++ [y])
 dis : Dis J J.length
theorem JF.tj {w : World} {B : Nat} {J : List Lf} {N : List Ky → Option (Nat × Nat)} {c : Nat} {x0 : Nat × Nat} (h : JF w B J [] N c x0) (hd : Dis J J.length) : TJ w B J N c :=
 ⟨by simpa using h.tre, fun z y => by
  cases z with
  | nil => simpa using h.there y []
  | cons u r => simpa using h.there u (r ++ [y]), hd⟩
theorem TJ.below {w w' : World} {B : Nat} {J : List Lf} {N : List Ky → Option (Nat × Nat)} {c : Nat} (h : TJ w B J N c) (hb : Below w.heap.size w w') : TJ w' B J N c := ⟨h.tre.below hb, h.there, h.dis⟩
theorem TJ.deep {w : World} {B : Nat} {J : List Lf} {N : List Ky → Option (Nat × Nat)} {c : Nat} (h : TJ w B J N c) (h8 : ∀ x ∈ J, (Way x).length ≤ 8) : ∀ p, N p ≠ none → p.length ≤ 8 := fun p hp => by
 by_cases e : p = []
 ·rw [e]; simp
 ·obtain ⟨z, y, rfl⟩ : ∃ z y, p = z ++ [y] := ⟨p.dropLast, p.getLast e, (List.dropLast_concat_getLast e).symm⟩
  have h1 : (N (z ++ [y])).isSome = true := by
   cases hv : N (z ++ [y]) with
   | none => exact absurd hv hp
   | some v => rfl
  obtain ⟨x, hx, hpre⟩ := (h.there z y).1 h1
  exact Nat.le_trans hpre.length_le (h8 x hx)
theorem countStep {v0 : World} {B c : Nat} {J : List Lf} {N : List Ky → Option (Nat × Nat)} (H : TJ v0 B J N c) (hc : c ≤ 1048576) (hJ : J.length ≤ 1048576) (z : List Ky) (x : Nat × Nat) (hx : N z = some x)
  (hIH : ∀ y x1, N (z ++ [y]) = some x1 → ∀ w, Below v0.heap.size v0 w → Calls Tryz.prog 95 #[.agg #[.map (some x1.1), .map (some x1.2)]] w fun e w' => e = .returned (.int .i64 (cW J (z ++ [y]))) ∧ Below w.heap.size w w')
  (w : World) (hw : Below v0.heap.size v0 w) :
  Calls Tryz.prog 95 #[.agg #[.map (some x.1), .map (some x.2)]] w fun e w' => e = .returned (.int .i64 (cW J z)) ∧ Below w.heap.size w w' := by
 have HT := hid (H.below hw)
 have HV := hid hw
 have HX := hid hx
 have HI := hid hIH
 obtain ⟨W, hW⟩ : ∃ W, w.alloc (.cells #[.map (some x.1), .map (some x.2)] 64) = W := ⟨_, rfl⟩
 have b0 : Below w.heap.size w W := by rw [← hW]; exact (Below.refl _ _).alloc (Nat.le_refl _) _
 have X0 : Bx2 W w.heap.size (.map (some x.1)) (.map (some x.2)) := by rw [← hW]; exact Bx2.made _ _ _ _
 have hmk := (HT.out.tre.below b0).marks z x hx
 obtain ⟨D, hD⟩ := hmk
 obtain ⟨m, hm⟩ : ∃ m, mW J z = m := ⟨_, rfl⟩
 have hln : ∀ ty, (Builtin.len_ #[62] ty #[.map (some x.2)]).run Tryz.prog W = .ok (.int .i64 (m : Nat)) W := fun ty => by rw [← hm, ← marks_len H.dis hD]; exact hD.own.len Tryz.underlying62 ty
 have hm2 : m ≤ 1048576 := by rw [← hm]; exact Nat.le_trans (mW_le J z) hJ
 have HM := hid hm
 have HKS := hid ((HT.out.tre.below b0).kids z x hx)
 have HB0 := hid b0
 have x0 := X0.c0
 have x1 := X0.c1
 have HJL := hid (And.intro hc hJ)
 have HTH := hid H.there
 clear H hc hx hIH hw b0 X0 hD hm hJ
 go_enter Tryz.func95, Tryz.ntmps95
 go_wp2_with (at_range; refine wpList_range_O _ rfl _ 61 rfl 140 64 keyKeyed Tryz.underlying61 keyV nodV (some x.1) c (fun y => N (z ++ [y])) rfl HKS.out ?_; intro w0 cnt0 hrg0 hg0 hs0)
 have HG1 : Hid (Below W.heap.size W w0) := hid ⟨hg0.os, hg0.tape, hg0.output, hg0.size, fun k hk => hg0.block k hk (by simp)⟩
 clear hg0 hs0 hln x0 x1 hW
 try go_frame
 go_loopw [3] (fun t wr => ∃ (ds : List Ky) (cnt T : Nat), t = .int .i64 T ∧ Rng wr 140 keyV nodV (some x.1) W.heap.size c (fun y => N (z ++ [y])) ds cnt ∧ Hid (T = m + (ds.map fun y => cW J (z ++ [y])).sum) ∧ Hid (Below W.heap.size W wr)) (fun t wr => wr.rangeLeft x.1 W.heap.size)
 case atStart => exact ⟨[], _, m, rfl, hrg0, hid (by simp), HG1⟩
 case round =>
  clear hrg0 HG1
  obtain ⟨ds, cnt, T, rfl, hrg, HTT, HGR⟩ := hrel
  have HRG0 := hid hrg
  go_wp2_with (at_next; refine wpList_next_O _ rfl _ rfl 140 keyKeyed keyV (fun _ _ => keyV_inj) (fun key kl hk => keyOf_key hk) nodV (some x.1) W.heap.size c (fun y => N (z ++ [y])) ds cnt rfl hrg ?_ ?_)
  ·intro hk
   have HE : Hid (T = cW J z) := hid (by
    rw [HTT.out, cW_sum z ds hk.1 J (fun u hu y hp => (hk.2 y).2 (fun hn => by
     have := (HTH.out z y).2 ⟨u, hu, hp⟩
     rw [show N (z ++ [y]) = none from hn] at this; cases this)), HM.out])
   clear hk hrg
   go_wp2_with fail
   go_ret
   exact ⟨by have h := HE.out; subst h; rfl, keepS HB0.out HGR.out⟩
  ·intro xs xk yv1 yv2 w5 cnt2 hfx hnx kl hkl hrg2 hlt2 hg2 hs2 hen
   have HKY := hid (fun w1 (b1 : Below v0.heap.size v0 w1) => HI.out (xs, xk) (yv1, yv2) hfx w1 b1)
   obtain ⟨n, hn⟩ : ∃ n, cW J (z ++ [(xs, xk)]) = n := ⟨_, rfl⟩
   rw [hn] at HKY
   have k1 : n ≤ 1048576 := by rw [← hn]; exact Nat.le_trans (cW_le _ _) HJL.out.2
   have k2 : T ≤ 1099512676352 := by
    have h1 := sum_cW J z ds
    have h2 := HRG0.out.len
    have h3 := HJL.out
    have h4 : ds.length * J.length ≤ 1048576 * 1048576 := Nat.mul_le_mul (by omega) (by omega)
    rw [HTT.out]; omega
   have HT2 : Hid (T + n = m + ((ds ++ [(xs, xk)]).map fun y => cW J (z ++ [y])).sum) := hid (by rw [HTT.out]; simp [hn]; omega)
   have HML : Hid (∀ w9, Rng w9 140 keyV nodV (some x.1) W.heap.size c (fun y => N (z ++ [y])) (ds ++ [(xs, xk)]) cnt2 → w9.rangeLeft x.1 W.heap.size < wr.rangeLeft x.1 W.heap.size) := hid (fun w9 h9 => by
    rw [h9.left_eq, HRG0.out.left_eq]; exact hlt2)
   have HB5 : Hid (Below W.heap.size W w5) := hid (HGR.out.grown hg2 HGR.out.size (fun k e => by cases e; exact Nat.le_refl _))
   have HR5 := hid hrg2
   obtain ⟨w6, hw6⟩ : ∃ w6, w5.alloc (.cells #[.map (some yv1), .map (some yv2)] 64) = w6 := ⟨_, rfl⟩
   have b6 : Below w5.heap.size w5 w6 := by rw [← hw6]; exact (Below.refl _ _).alloc (Nat.le_refl _) _
   have K6 : Bx2 w6 w5.heap.size (.map (some yv1)) (.map (some yv2)) := by rw [← hw6]; exact Bx2.made _ _ _ _
   have HB6 := hid (HB5.out.trans (b6.mono HB5.out.size))
   have HV6 : Hid (Below v0.heap.size v0 w6) := hid (HV.out.trans ((keepS HB0.out HB6.out).mono HV.out.size))
   have HR6 := hid (HR5.out.same (fun b e => b6.block b (HR5.out.mlt b e)) (b6.block _ HR5.out.lt))
   have c0 := K6.c0
   have c1 := K6.c1
   clear hfx hnx hkl hrg hrg2 hlt2 hg2 hs2 b6 K6 hn
   dsimp only [keyV, nodV] at hen ⊢
   go_wp2_with fail
   refine (HKY.out _ HV6.out).mono ?_
   rintro e w7 ⟨rfl, b7⟩
   have HB7 := hid (HB6.out.trans (b7.mono HB6.out.size))
   have HR7 := hid (HR6.out.same (fun b e => b7.block b (HR6.out.mlt b e)) (b7.block _ HR6.out.lt))
   clear b7 c0 c1 hen hw6
   go_wp2_with fail
   go_roundw
   case rel => exact ⟨_, _, T + n, by go_num, HR7.out, HT2, HB7⟩
   case measure => exact HML.out w7 HR7.out
theorem countC {v0 : World} {B c : Nat} {J : List Lf} {N : List Ky → Option (Nat × Nat)} (H : TJ v0 B J N c) (hc : c ≤ 1048576) (hJ : J.length ≤ 1048576) (h8 : ∀ x ∈ J, (Way x).length ≤ 8) :
  ∀ d z x, z.length + d = 8 → N z = some x → ∀ w, Below v0.heap.size v0 w → Calls Tryz.prog 95 #[.agg #[.map (some x.1), .map (some x.2)]] w fun e w' => e = .returned (.int .i64 (cW J z)) ∧ Below w.heap.size w w'
 | 0, z, x, hz, hx, w, hw => countStep H hc hJ z x hx (fun y x1 h1 => absurd (H.deep h8 (z ++ [y]) (by rw [h1]; simp)) (by simp; omega)) w hw
 | d + 1, z, x, hz, hx, w, hw => countStep H hc hJ z x hx (fun y x1 h1 => countC H hc hJ h8 d (z ++ [y]) x1 (by simp; omega) h1) w hw
end Go.Proofs.YtcbcabhjododoaaGreat
