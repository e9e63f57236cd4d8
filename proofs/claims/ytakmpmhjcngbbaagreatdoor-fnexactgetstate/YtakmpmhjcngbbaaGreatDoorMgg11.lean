import Derived.Test.YtakmpmhjcngbbaaGreatDoorMgg10
import Derived.Test.YtakmpmhjcngbbaaGreatDoorMgg09
set_option linter.unusedVariables false
set_option linter.unusedSimpArgs false
set_option maxRecDepth 100000
set_option maxHeartbeats 40000000
namespace Go.Proofs.YtakmpmhjcngbbaaGreatDoor
open Go.ChangeShapes Go.WideShapes Go.ChangeAt Go.RowKit Go.Maps
def wayOf (p : List ByteArray) (k : Int) : List Ky := (List.range p.length).map fun i => (gS p i, if i + 1 < p.length then 3 else k)
theorem wayOf_len (p : List ByteArray) (k : Int) : (wayOf p k).length = p.length := by simp [wayOf]
theorem wayOf_get {p : List ByteArray} {k : Int} {i : Nat} (h : i < p.length) : (wayOf p k)[i]? = some (gS p i, if i + 1 < p.length then 3 else k) := by simp [wayOf, h]
theorem wayOf_take {p : List ByteArray} {k : Int} {i : Nat} (h : i < p.length) : (wayOf p k).take (i + 1) = (wayOf p k).take i ++ [(gS p i, if i + 1 < p.length then 3 else k)] := by
  have h' : i < (wayOf p k).length := by rw [wayOf_len]; exact h
  rw [List.take_add_one, wayOf_get h]; rfl
theorem gS_ext {p q : List ByteArray} (hl : p.length = q.length) (h : ∀ i, i < p.length → gS p i = gS q i) : p = q := by
  refine List.ext_getElem hl fun i h1 h2 => ?_
  have := h i h1
  simpa [gS, List.getD, h1, h2] using this
theorem wayOf_inj {p q : List ByteArray} {k j : Int} (h : wayOf p k = wayOf q j) (h0 : 0 < p.length) : p = q ∧ k = j := by
  have hl : p.length = q.length := by have := congrArg List.length h; simpa [wayOf_len] using this
  have each : ∀ i, i < p.length → (gS p i, if i + 1 < p.length then 3 else k) = (gS q i, if i + 1 < q.length then (3 : Int) else j) := fun i hi => by
    have := wayOf_get (k := k) hi
    rw [h, wayOf_get (by omega)] at this
    injection this with this
    exact this.symm
  refine ⟨gS_ext hl fun i hi => (Prod.mk.inj (each i hi)).1, ?_⟩
  have := (Prod.mk.inj (each (p.length - 1) (by omega))).2
  rw [if_neg (by omega), if_neg (by omega)] at this
  exact this
structure Tre (w : World) (B : Nat) (N : List Ky → Option (Nat × Nat)) (M : List Ky → Dt → Option ByteArray) (c : Nat) : Prop where
  kids : ∀ p x, N p = some x → MapF w 110 keyV nodV x.1 c (fun y => N (p ++ [y]))
  marks : ∀ p x, N p = some x → MapF w 87 dtV mrkV x.2 c (M p)
  apart : ∀ p q x y, N p = some x → N q = some y → x.1 ≠ y.2 ∧ (x.1 = y.1 → p = q) ∧ (x.2 = y.2 → p = q)
  lo : ∀ p x, N p = some x → B ≤ x.1 ∧ B ≤ x.2
  none' : ∀ p, N p = none → M p = fun _ => none
  up : ∀ p y, N p = none → N (p ++ [y]) = none
section
variable {w w' : World} {B c : Nat} {N : List Ky → Option (Nat × Nat)} {M : List Ky → Dt → Option ByteArray}
theorem Tre.same (h : Tre w B N M c) (hs : ∀ p x, N p = some x → w'.heap[x.1]? = w.heap[x.1]? ∧ w'.heap[x.2]? = w.heap[x.2]?) : Tre w' B N M c :=
  ⟨fun p x hx => (h.kids p x hx).same (hs p x hx).1, fun p x hx => (h.marks p x hx).same (hs p x hx).2, h.apart, h.lo, h.none', h.up⟩
theorem Tre.lt (h : Tre w B N M c) {p : List Ky} {x : Nat × Nat} (hx : N p = some x) : x.1 < w.heap.size ∧ x.2 < w.heap.size := ⟨(h.kids p x hx).lt, (h.marks p x hx).lt⟩
theorem Tre.below (h : Tre w B N M c) (hb : Below w.heap.size w w') : Tre w' B N M c := h.same fun p x hx => ⟨hb.block _ (h.lt hx).1, hb.block _ (h.lt hx).2⟩
theorem Tre.mono {c' : Nat} (h : Tre w B N M c) (hc : c ≤ c') : Tre w B N M c' := ⟨fun p x hx => (h.kids p x hx).mono hc, fun p x hx => (h.marks p x hx).mono hc, h.apart, h.lo, h.none', h.up⟩
theorem cell_obj {w : World} {q : Addr} {v : Value} (h : w.cell? q = some v) : ∀ es clock, w.heap[q.block]? ≠ some (.map es clock) := by
  intro es clock e
  simp [World.cell?, e] at h
noncomputable def updM (M : List Ky → Dt → Option ByteArray) (p : List Ky) (d : Dt) (s : ByteArray) (q : List Ky) : Dt → Option ByteArray := if yes (q = p) = true then updF (M p) d (some s) else M q
theorem updM_same (M : List Ky → Dt → Option ByteArray) (p : List Ky) (d : Dt) (s : ByteArray) : updM M p d s p = updF (M p) d (some s) := by unfold updM; rw [if_pos (yes_t rfl)]
theorem updM_other (M : List Ky → Dt → Option ByteArray) {p q : List Ky} (d : Dt) (s : ByteArray) (h : q ≠ p) : updM M p d s q = M q := by unfold updM; rw [if_neg (by rw [yes_f h]; simp)]
end
def onWay (p : List ByteArray) (k : Int) (i : Nat) : Ky := (gS p i, if i + 1 < p.length then 3 else k)
theorem newNode (w : World) :
    Calls Tryz.prog 49 #[] w fun e w' => ∃ s s', e = .returned (.agg #[.map (some s), .map (some s')]) ∧ s ≠ s' ∧ w.heap.size ≤ s ∧ w.heap.size ≤ s' ∧ MapF w' 110 (α := Ky) keyV nodV s 0 (fun _ => none) ∧ MapF w' 87 (α := Dt) dtV mrkV s' 0 (fun _ => none) ∧ Below w.heap.size w w' := by
  have hmm := @run_makeMap Tryz.prog
  have H1 := hid ((MapF.made (α := Ky) (w.alloc (.cells #[.map (some (w.heap.size + 1)), .map (some (w.heap.size + 1 + 1))] 47)) 110 keyV nodV).same (w' := (((w.alloc (.cells #[.map (some (w.heap.size + 1)), .map (some (w.heap.size + 1 + 1))] 47)).alloc (.map #[] 0)).alloc (.map #[] 0))) (Below.heap_alloc _ _ _ (by simp)))
  have H2 := hid (MapF.made (α := Dt) ((w.alloc (.cells #[.map (some (w.heap.size + 1)), .map (some (w.heap.size + 1 + 1))] 47)).alloc (.map #[] 0)) 87 dtV mrkV)
  go_enter Tryz.func49, Tryz.ntmps49
  go_wp2_with fail
  refine bodyPost_ret (v := .agg #[.map (some (w.heap.size + 1)), .map (some (w.heap.size + 1 + 1))]) (by simp [results, Tryz.results49, go_sem]) rfl ⟨_, _, rfl, by omega, by omega, by omega, by simpa using H1.out, by simpa using H2.out, ?_⟩
  exact (((Below.refl _ _).alloc (Nat.le_refl _) _).alloc (by simp) _).alloc (by simp; omega) _
structure Bx2 (w : World) (b : Nat) (v0 v1 : Value) : Prop where
  c0 : w.cell? ⟨b, 0, none⟩ = some v0
  c1 : w.cell? ⟨b, 1, none⟩ = some v1
  f : ∀ i, w.frozen? ⟨b, i, none⟩ = false
  lt : b < w.heap.size
theorem Bx2.below {w w' : World} {B b : Nat} {v0 v1 : Value} (h : Bx2 w b v0 v1) (hb : Below B w w') (hB : b < B) : Bx2 w' b v0 v1 :=
  ⟨(hb.cell (p := ⟨b, 0, none⟩) hB).trans h.c0, (hb.cell (p := ⟨b, 1, none⟩) hB).trans h.c1, fun i => (hb.frozen (p := ⟨b, i, none⟩) hB).trans (h.f i), Nat.lt_of_lt_of_le h.lt hb.size⟩
theorem Bx2.set0 {w : World} {b : Nat} {v0 v1 : Value} (h : Bx2 w b v0 v1) (u : Value) : Bx2 (w.setCell ⟨b, 0, none⟩ u) b u v1 :=
  ⟨World.cell?_setCell_same _ _ _ h.c0, by simp [World.cell?_setCell_other, h.c1], fun i => by rw [World.frozen?_setCell]; exact h.f i, by simp [World.setCell]; exact h.lt⟩
theorem Bx2.set1 {w : World} {b : Nat} {v0 v1 : Value} (h : Bx2 w b v0 v1) (u : Value) : Bx2 (w.setCell ⟨b, 1, none⟩ u) b v0 u :=
  ⟨by simp [World.cell?_setCell_other, h.c0], World.cell?_setCell_same _ _ _ h.c1, fun i => by rw [World.frozen?_setCell]; exact h.f i, by simp [World.setCell]; exact h.lt⟩
theorem Bx2.set {w : World} {b : Nat} {v0 v1 : Value} (h : Bx2 w b v0 v1) (u u' : Value) : Bx2 ((w.setCell ⟨b, 0, none⟩ u).setCell ⟨b, 1, none⟩ u') b u u' := (h.set0 u).set1 u'
theorem Bx2.made (w : World) (v0 v1 : Value) (t : TypeId) : Bx2 (w.alloc (.cells #[v0, v1] t)) w.heap.size v0 v1 := ⟨by simp, by simp, fun i => by simp, by simp⟩
theorem Bx2.allocs {w : World} {b : Nat} {v0 v1 : Value} (h : Bx2 w b v0 v1) (o : Obj) : Bx2 (w.alloc o) b v0 v1 := h.below ((Below.refl _ _).alloc (Nat.le_refl _) o) h.lt
structure Bx1 (w : World) (b : Nat) (v0 : Value) : Prop where
  c0 : w.cell? ⟨b, 0, none⟩ = some v0
  f : ∀ i, w.frozen? ⟨b, i, none⟩ = false
  lt : b < w.heap.size
theorem Bx1.made (w : World) (v0 : Value) (t : TypeId) : Bx1 (w.alloc (.cells #[v0] t)) w.heap.size v0 := ⟨by simp, fun i => by simp, by simp⟩
theorem zeroNode (w : World) : (zeroValue 47).run Tryz.prog w = .ok (nodV none) w := by kernel_rfl
theorem zeroMark (w : World) : (zeroValue 122).run Tryz.prog w = .ok (mrkV none) w := by kernel_rfl
end Go.Proofs.YtakmpmhjcngbbaaGreatDoor
namespace Go.Proofs.YtakmpmhjcngbbaaGreatDoor
open Go.ChangeShapes Go.WideShapes Go.ChangeAt Go.RowKit
theorem yes_d {P : Prop} [Decidable P] : yes P = decide P := by
  by_cases h : P
  · rw [yes_t h, decide_eq_true h]
  · rw [yes_f h, decide_eq_false h]
theorem cmpI_neg {x y : Int} : cmpI x y < 0 ↔ x < y := by unfold cmpI; split <;> (try split) <;> omega
theorem cmpI_z {x y : Int} : cmpI x y = 0 ↔ x = y := by unfold cmpI; split <;> (try split) <;> omega
theorem befF {p p' : List ByteArray} {fl fl' : Bool} {r q r' q' : Int} {v v' : ByteArray} :
    (cmpP p p' ≠ 0 → yes (cmpL ⟨p, fl, r, q, v⟩ ⟨p', fl', r', q', v'⟩ < 0) = decide (cmpP p p' < 0)) ∧
    (cmpP p p' = 0 → fl ≠ fl' → yes (cmpL ⟨p, fl, r, q, v⟩ ⟨p', fl', r', q', v'⟩ < 0) = fl') ∧
    (cmpP p p' = 0 → fl = fl' → r ≠ r' → yes (cmpL ⟨p, fl, r, q, v⟩ ⟨p', fl', r', q', v'⟩ < 0) = decide (r < r')) ∧
    (cmpP p p' = 0 → fl = fl' → r = r' → yes (cmpL ⟨p, fl, r, q, v⟩ ⟨p', fl', r', q', v'⟩ < 0) = decide (q < q')) := by
  refine ⟨fun h => ?_, fun h hf => ?_, fun h hf hr => ?_, fun h hf hr => ?_⟩
  · rw [yes_d]; simp only [cmpL, orI, if_neg h]
  · have e : cmpL ⟨p, fl, r, q, v⟩ ⟨p', fl', r', q', v'⟩ = cmpI (kd fl) (kd fl') := by
      have : cmpI (kd fl) (kd fl') ≠ 0 := by rw [Ne, cmpI_z]; cases fl <;> cases fl' <;> simp_all [kd]
      simp only [cmpL, orI, if_pos h, if_neg this]
    rw [e, yes_d]
    cases fl <;> cases fl' <;> simp_all [kd, cmpI]
  · have e : cmpL ⟨p, fl, r, q, v⟩ ⟨p', fl', r', q', v'⟩ = cmpI r r' := by
      have h1 : cmpI (kd fl) (kd fl') = 0 := by rw [cmpI_z, hf]
      have h2 : cmpI r r' ≠ 0 := by rw [Ne, cmpI_z]; exact hr
      simp only [cmpL, orI, if_pos h, if_pos h1, cmpD, if_neg h2]
    rw [e, yes_d]; exact decide_eq_decide.2 cmpI_neg
  · have e : cmpL ⟨p, fl, r, q, v⟩ ⟨p', fl', r', q', v'⟩ = cmpI q q' := by
      have h1 : cmpI (kd fl) (kd fl') = 0 := by rw [cmpI_z, hf]
      have h2 : cmpI r r' = 0 := by rw [cmpI_z]; exact hr
      simp only [cmpL, orI, if_pos h, if_pos h1, cmpD, if_pos h2]
    rw [e, yes_d]; exact decide_eq_decide.2 cmpI_neg
theorem l3Before (a a' : Option Addr) (c c' : Nat) (p p' : List ByteArray) (fl fl' : Bool) (r q r' q' : Int) (v v' : ByteArray) (w : World) (hn : p.length ≤ 1048576) (hn' : p'.length ≤ 1048576) (hc : p.length ≤ c) (hc' : p'.length ≤ c') (hx : c ≤ 9223372036854775807) (hx' : c' ≤ 9223372036854775807) (h : SSeg w a p) (h' : SSeg w a' p') :
    Calls Tryz.prog 44 #[.agg #[.slice a p.length c, .bool fl, .int .i64 r, .int .i64 q, .string v], .agg #[.slice a' p'.length c', .bool fl', .int .i64 r', .int .i64 q', .string v']] w fun e w' => e = .returned (.bool (yes (cmpL ⟨p, fl, r, q, v⟩ ⟨p', fl', r', q', v'⟩ < 0))) ∧ Below w.heap.size w w' := by
  obtain ⟨W, hW⟩ : ∃ W, (w.alloc (.cells #[.slice a p.length c, .bool fl, .int .i64 r, .int .i64 q, .string v] 89)).alloc (.cells #[.slice a' p'.length c', .bool fl', .int .i64 r', .int .i64 q', .string v'] 89) = W := ⟨_, rfl⟩
  have b0 : Below w.heap.size w W := by rw [← hW]; exact below2 _ _ _
  have zW : W.heap.size = w.heap.size + 2 := by rw [← hW]; simp
  have k0 : W.cell? ⟨w.heap.size, 0, none⟩ = some (.slice a p.length c) := by rw [← hW]; simp
  have k1 : W.cell? ⟨w.heap.size, 1, none⟩ = some (.bool fl) := by rw [← hW]; simp
  have k2 : W.cell? ⟨w.heap.size, 2, none⟩ = some (.int .i64 r) := by rw [← hW]; simp
  have k3 : W.cell? ⟨w.heap.size, 3, none⟩ = some (.int .i64 q) := by rw [← hW]; simp
  have k4 : W.cell? ⟨w.heap.size, 4, none⟩ = some (.string v) := by rw [← hW]; simp
  have l0 : W.cell? ⟨w.heap.size + 1, 0, none⟩ = some (.slice a' p'.length c') := by rw [← hW]; simp
  have l1 : W.cell? ⟨w.heap.size + 1, 1, none⟩ = some (.bool fl') := by rw [← hW]; simp
  have l2 : W.cell? ⟨w.heap.size + 1, 2, none⟩ = some (.int .i64 r') := by rw [← hW]; simp
  have l3 : W.cell? ⟨w.heap.size + 1, 3, none⟩ = some (.int .i64 q') := by rw [← hW]; simp
  have l4 : W.cell? ⟨w.heap.size + 1, 4, none⟩ = some (.string v') := by rw [← hW]; simp
  have HB0 := hid b0
  have z0 : w.heap.size < W.heap.size := by omega
  have z1 : w.heap.size + 1 < W.heap.size := by omega
  have HS := hid (cmpSpec p p' a a' c c' W hc hc' hx hx' (h.below b0) (h'.below b0))
  obtain ⟨F1, F2, F3, F4⟩ := @befF p p' fl fl' r q r' q' v v'
  have H1 := hid F1
  have H2 := hid F2
  have H3 := hid F3
  have H4 := hid F4
  obtain ⟨B, hB⟩ : ∃ B, yes (cmpL ⟨p, fl, r, q, v⟩ ⟨p', fl', r', q', v'⟩ < 0) = B := ⟨_, rfl⟩
  obtain ⟨x, hx⟩ : ∃ x, cmpP p p' = x := ⟨_, rfl⟩
  rw [hB] at H1 H2 H3 H4
  rw [hx] at H1 H2 H3 H4 HS
  rw [hB]
  clear b0 zW h h' F1 F2 F3 F4 hB hx
  go_enter Tryz.func44, Tryz.ntmps44
  go_wp2_with fail
  try rw [hW]
  clear hW
  refine HS.out.mono ?_
  rintro e w1 ⟨rfl, k, hk⟩
  have mk1 : w1.cell? ⟨w.heap.size, 1, none⟩ = some (.bool fl) := by rw [hk]; exact k1
  have mk2 : w1.cell? ⟨w.heap.size, 2, none⟩ = some (.int .i64 r) := by rw [hk]; exact k2
  have mk3 : w1.cell? ⟨w.heap.size, 3, none⟩ = some (.int .i64 q) := by rw [hk]; exact k3
  have ml1 : w1.cell? ⟨w.heap.size + 1, 1, none⟩ = some (.bool fl') := by rw [hk]; exact l1
  have ml2 : w1.cell? ⟨w.heap.size + 1, 2, none⟩ = some (.int .i64 r') := by rw [hk]; exact l2
  have ml3 : w1.cell? ⟨w.heap.size + 1, 3, none⟩ = some (.int .i64 q') := by rw [hk]; exact l3
  have HB1 : Hid (Below w.heap.size w w1) := hid (by rw [hk]; exact ⟨HB0.out.os, HB0.out.tape, HB0.out.output, HB0.out.size, HB0.out.block⟩)
  clear hk k0 k1 k2 k3 k4 l0 l1 l2 l3 l4 HS z0 z1 HB0
  by_cases h0 : x = 0
  · have e0 : (x != 0) = false := by simp [h0]
    by_cases h1 : fl = fl'
    · have e1 : (fl != fl') = false := by simp [h1]
      by_cases h2 : r = r'
      · have e2 : (r != r') = false := by simp [h2]
        have HG := hid (H4.out h0 h1 h2)
        clear H1 H2 H3 H4
        go_wp2_with fail
        go_ret
        exact ⟨ret_b HG.out.symm, HB1.out⟩
      · have e2 : (r != r') = true := by simpa using h2
        have HG := hid (H3.out h0 h1 h2)
        clear H1 H2 H3 H4
        go_wp2_with fail
        go_ret
        exact ⟨ret_b HG.out.symm, HB1.out⟩
    · have e1 : (fl != fl') = true := by simpa using h1
      have HG := hid (H2.out h0 h1)
      clear H1 H2 H3 H4 e1
      cases fl <;> cases fl' <;> first
        | exact absurd rfl h1
        | (clear h1; go_wp2_with fail; go_ret; exact ⟨ret_b HG.out.symm, HB1.out⟩)
  · have e0 : (x != 0) = true := by simpa using h0
    have HG := hid (H1.out h0)
    clear H1 H2 H3 H4
    go_wp2_with fail
    go_ret
    exact ⟨ret_b HG.out.symm, HB1.out⟩
end Go.Proofs.YtakmpmhjcngbbaaGreatDoor
