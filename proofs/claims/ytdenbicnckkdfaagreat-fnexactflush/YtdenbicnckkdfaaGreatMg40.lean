import Derived.Test.YtdenbicnckkdfaaGreatMg39
import Derived.Test.YtdenbicnckkdfaaGreatMg22
namespace Go.Proofs.YtdenbicnckkdfaaGreat
open Go.ChangeShapes Go.WideShapes Go.ChangeAt Go.RowKit
set_option linter.unusedVariables false
set_option linter.unusedSimpArgs false

set_option maxHeartbeats 1000000 in
theorem eqFrameO (K : Int) (v v' : Value) (zs : List Int) (B B' : Nat) (w : World) (hl : zs.length ≤ 1000000) (h : Own w B v zs) (h' : Own w B' v' zs) :
    Calls Tryz.prog 9 #[.agg #[.int .i64 K, v], .agg #[.int .i64 K, v']] w fun e w' => e = .returned (.bool true) ∧ Below w.heap.size w w' := by
  obtain ⟨W, hW⟩ : ∃ W, (w.alloc (.cells #[.int .i64 K, v] 41)).alloc (.cells #[.int .i64 K, v'] 41) = W := ⟨_, rfl⟩
  have b0 : Below w.heap.size w W := by rw [← hW]; exact below2 _ _ _
  have k0 : W.cell? ⟨w.heap.size, 0, none⟩ = some (.int .i64 K) := by rw [← hW]; simp
  have k1 : W.cell? ⟨w.heap.size, 1, none⟩ = some v := by rw [← hW]; simp
  have l0 : W.cell? ⟨w.heap.size + 1, 0, none⟩ = some (.int .i64 K) := by rw [← hW]; simp
  have l1 : W.cell? ⟨w.heap.size + 1, 1, none⟩ = some v' := by rw [← hW]; simp
  obtain ⟨va, vc, hv, _⟩ := h.any
  obtain ⟨va', vc', hv', _⟩ := h'.any
  have HE := hid (eqOwn (own_at5 h fun g hg => b0.block g (World.ownsRow.lt h g hg).2) (own_at5 h' fun g hg => b0.block g (World.ownsRow.lt h' g hg).2) (by omega))
  subst hv hv'
  have HB0 := hid b0
  have d1 : (K == K) = true := by simp
  have d2 : (K != K) = false := by simp
  clear h h' b0
  go_enter Tryz.func9, Tryz.ntmps9
  go_wp2_with fail
  try rw [hW]
  clear hW
  refine HE.out.mono ?_
  rintro e w1 ⟨rfl, b1⟩
  have HB1 := hid (keepS HB0.out b1)
  clear b1 HE k0 k1 l0 l1
  go_wp2_with fail
  go_ret
  exact ⟨rfl, HB1.out⟩
theorem markOwnK {w : World} {B : Nat} {v : Value} {zs : List Int} (h : Own w B v zs) (hl : zs.length ≤ 1000000000) (k0 : Nat) (hk0 : k0 ≤ 1000000) :
    Calls Tryz.prog 28 #[v, .int .i64 (k0 : Int)] w fun e w' => e = .returned (.int .i64 ((k0 + zs.length : Nat) : Int)) ∧ Below B w w' ∧ (∃ a cap, v = .slice a zs.length cap ∧ Seg w' a zs.length (mk8 k0)) ∧ ∀ q, some q ≠ v.ownBlock → w'.heap[q]? = w.heap[q]? := by
  by_cases hz : zs = []
  · subst hz
    obtain ⟨a, cap, rfl, s⟩ := h.any
    refine (markB0 a cap k0 w).mono ?_
    rintro e w' ⟨rfl, rfl⟩
    exact ⟨by simp, Below.refl _ _, ⟨a, cap, rfl, .inl rfl⟩, fun _ _ => rfl⟩
  · obtain ⟨g, cap, rfl, _, _, _, _, _, s⟩ := h.shape hz
    refine (markB B g zs.length cap k0 _ w (by omega) (by omega) h).mono ?_
    rintro e w' ⟨rfl, b, z, s, o⟩
    exact ⟨rfl, b, ⟨_, cap, rfl, s⟩, fun q hq => o q (fun e => hq (by rw [e]; rfl))⟩
set_option maxHeartbeats 1000000 in
theorem markFrameO (K : Int) (v : Value) (zs : List Int) (B : Nat) (w : World) (hl : zs.length ≤ 1000000) (hB : B ≤ w.heap.size) (h : Own w B v zs) :
    Calls Tryz.prog 11 #[.agg #[.int .i64 K, v], .int .i64 1] w fun e w' => e = .returned (.int .i64 ((1 + zs.length : Nat) : Int)) ∧ Below B w w' ∧ (∃ a cap, v = .slice a zs.length cap ∧ Seg w' a zs.length (mk8 1)) ∧ ∀ q, q < w.heap.size → some q ≠ v.ownBlock → w'.heap[q]? = w.heap[q]? := by
  obtain ⟨W, hW⟩ : ∃ W, w.alloc (.cells #[.int .i64 K, v] 41) = W := ⟨_, rfl⟩
  have b0 : Below w.heap.size w W := by rw [← hW]; exact (Below.refl _ _).alloc (Nat.le_refl _) _
  have k0 : W.cell? ⟨w.heap.size, 0, none⟩ = some (.int .i64 K) := by rw [← hW]; simp
  have k1 : W.cell? ⟨w.heap.size, 1, none⟩ = some v := by rw [← hW]; simp
  obtain ⟨va, vc, hv, _⟩ := h.any
  have HBW := hid b0
  have HM := hid (markOwnK (own_at5 h fun g hg => b0.block g (World.ownsRow.lt h g hg).2) (by omega) 1 (by omega))
  have HB0 := hid (b0.mono hB)
  clear h b0
  subst hv
  go_enter Tryz.func11, Tryz.ntmps11
  go_wp2_with fail
  try rw [hW]
  clear hW
  refine HM.out.mono ?_
  rintro e w1 ⟨rfl, b1, hs, hq⟩
  have HQ := hid hq
  have HB1 := hid (HB0.out.trans b1)
  have HS := hid hs
  obtain ⟨m, hm⟩ : ∃ m, 1 + zs.length = m := ⟨_, rfl⟩
  have HE := hid hm
  rw [hm]
  clear b1 hs hq HM k0 k1 hm
  go_wp2_with fail
  go_ret
  exact ⟨by rw [HE.out]; rfl, HB1.out, HS.out, fun q h1 h2 => (HQ.out q h2).trans (HBW.out.block q h1)⟩
set_option maxHeartbeats 1000000 in
theorem heldFrameO (K : Int) (a : Option Addr) (n cap : Nat) (w : World) (hl : n ≤ 1000000) (h : Seg w a n (mk8 1)) :
    Calls Tryz.prog 13 #[.agg #[.int .i64 K, .slice a n cap], .int .i64 1] w fun e w' => e = .returned (.int .i64 ((1 + n : Nat) : Int)) ∧ Below w.heap.size w w' := by
  obtain ⟨W, hW⟩ : ∃ W, w.alloc (.cells #[.int .i64 K, .slice a n cap] 41) = W := ⟨_, rfl⟩
  have b0 : Below w.heap.size w W := by rw [← hW]; exact (Below.refl _ _).alloc (Nat.le_refl _) _
  have k0 : W.cell? ⟨w.heap.size, 0, none⟩ = some (.int .i64 K) := by rw [← hW]; simp
  have k1 : W.cell? ⟨w.heap.size, 1, none⟩ = some (.slice a n cap) := by rw [← hW]; simp
  have HM := hid (heldB a n cap 1 W (by omega) (by omega) (h.below b0))
  have HB0 := hid b0
  clear h b0
  go_enter Tryz.func13, Tryz.ntmps13
  go_wp2_with fail
  try rw [hW]
  clear hW
  refine HM.out.mono ?_
  rintro e w1 ⟨rfl, rfl⟩
  obtain ⟨m, hm⟩ : ∃ m, 1 + n = m := ⟨_, rfl⟩
  have HE := hid hm
  rw [hm]
  have dm : decide ((m : Int) < 0) = false := by simp
  clear HM k0 k1 hm
  go_wp2_with fail
  go_ret
  exact ⟨by rw [HE.out]; rfl, HB0.out⟩
theorem Btw.wide {lo hi lo' hi' : Nat} {w w' : World} (h : Btw lo hi w w') (h1 : lo' ≤ lo) (h2 : hi ≤ hi') : Btw lo' hi' w w' := ⟨h.os, h.tape, h.output, h.size, fun g hg ho => h.block g hg (by omega)⟩
theorem SNw.btw {w w' : World} {lo hi lo' hi' g k : Nat} {S : Sx} (h : SNw w lo hi g k S) (hb : Btw lo' hi' w w') (hd : hi' ≤ lo) : (∃ ys, w'.ownsRow lo 71 3 (.slice (some ⟨k, 0, none⟩) S.n S.n) S.n ys) ∧ LMk w' lo hi g S.l :=
  ⟨by obtain ⟨ys, ho⟩ := h.ro; exact ⟨ys, own_at5 ho fun q hq => hb.block q (ho.lt q hq).2 (.inr (by have := (ho.lt q hq).1; omega))⟩, h.lm.same fun q h1 h2 => hb.block q (Nat.lt_of_lt_of_le h2 h.hl) (.inr (by omega))⟩
set_option maxRecDepth 100000 in
set_option maxHeartbeats 1000000 in
theorem markReplicaC (id : Int) (g k g' k' lo mid hi : Nat) (S S' : Sx) (w : World) (hm : S.Sm) (hm' : S'.Sm) (h : SNw w lo mid g k S) (h' : SNw w mid hi g' k' S') :
    Calls Tryz.prog 10 #[.agg #[.int .i64 id, .slice (some ⟨g, 0, none⟩) S.l.length S.l.length, .slice (some ⟨k, 0, none⟩) S.n S.n, .slice (some ⟨g', 0, none⟩) S'.l.length S'.l.length, .slice (some ⟨k', 0, none⟩) S'.n S'.n], .int .i64 1] w fun e w' => (∃ k1 : Nat, e = .returned (.int .i64 (k1 : Int))) ∧ Btw lo hi w w' := by
  obtain ⟨W, hW⟩ : ∃ W, w.alloc (.cells #[.int .i64 id, .slice (some ⟨g, 0, none⟩) S.l.length S.l.length, .slice (some ⟨k, 0, none⟩) S.n S.n, .slice (some ⟨g', 0, none⟩) S'.l.length S'.l.length, .slice (some ⟨k', 0, none⟩) S'.n S'.n] 38) = W := ⟨_, rfl⟩
  have b0 : Below w.heap.size w W := by rw [← hW]; exact (Below.refl _ _).alloc (Nat.le_refl _) _
  have B0 : Bx5 W w.heap.size (.int .i64 id) (.slice (some ⟨g, 0, none⟩) S.l.length S.l.length) (.slice (some ⟨k, 0, none⟩) S.n S.n) (.slice (some ⟨g', 0, none⟩) S'.l.length S'.l.length) (.slice (some ⟨k', 0, none⟩) S'.n S'.n) := by rw [← hW]; exact Bx5.new _ _ _ _ _ _ _
  have N1 := h.below b0
  have N2 := h'.below b0
  have HLM : Hid (lo ≤ mid ∧ mid ≤ hi ∧ hi ≤ w.heap.size) := hid ⟨by have := h.k1; have := h.k2; omega, by have := h'.k1; have := h'.k2; omega, h'.hl⟩
  obtain ⟨ys, ho⟩ := N1.ro
  have HM1 := hid (markStateC lo mid g k S.n 1 S.l ys W (by omega) hm.l1 hm.p1 hm.n1 N1.hl ⟨N1.k1, N1.k2⟩ N1.lm ho)
  have HN2 := hid N2
  have HB0 := hid (Btw.below (lo := lo) (hi := hi) b0)
  have HX := hid B0
  have q1 := B0.c1
  have q2 := B0.c2
  clear h h' b0 B0 N1 N2 ho
  go_enter Tryz.func10, Tryz.ntmps10
  go_wp2_with fail
  try rw [hW]
  clear hW
  refine HM1.out.mono ?_
  rintro e w1 ⟨⟨k1, hk1, rfl⟩, t1⟩
  have e1 := t1.block w.heap.size HX.out.lt (.inr (by have := HLM.out; omega))
  have r3 := (World.cell?_of_block (a := ⟨w.heap.size, 3, none⟩) e1).trans HX.out.c3
  have r4 := (World.cell?_of_block (a := ⟨w.heap.size, 4, none⟩) e1).trans HX.out.c4
  obtain ⟨⟨ys2, ho2⟩, lm2⟩ := HN2.out.btw t1 (Nat.le_refl _)
  have HM2 := hid (markStateC mid hi g' k' S'.n k1 S'.l ys2 w1 (by omega) hm'.l1 hm'.p1 hm'.n1 (Nat.le_trans HN2.out.hl t1.size) ⟨HN2.out.k1, HN2.out.k2⟩ lm2 ho2)
  have HB1 := hid (HB0.out.trans (t1.wide (Nat.le_refl _) HLM.out.2.1))
  clear t1 e1 ho2 lm2 HM1 q1 q2 HX HN2
  go_wp2_with fail
  refine HM2.out.mono ?_
  rintro e w2 ⟨⟨k2, hk2, rfl⟩, t2⟩
  have HB2 := hid (HB1.out.trans (t2.wide HLM.out.1 (Nat.le_refl _)))
  clear t2 HM2 r3 r4
  go_wp2_with fail
  go_ret
  exact ⟨⟨k2, rfl⟩, HB2.out⟩
theorem Own.cellset {w : World} {B : Nat} {v : Value} {zs : List Int} (h : Own w B v zs) (q : Addr) (u : Value) (hq : q.block < B) : Own (w.setCell q u) B v zs :=
  own_at5 h fun g hg => Below.heap_setCell _ _ _ _ (by have := (World.ownsRow.lt h g hg).1; omega)

noncomputable def whZ (id : Int) (S S' : Sx) : Int × List Int × Bool := if rpB id S S' = true then (2, (sxZ S).1, true) else (0, [], false)
theorem whZ_len (id : Int) (S S' : Sx) : (whZ id S S').2.1.length ≤ 4000 := by
  unfold whZ
  split
  · exact sxZ_len S
  · simp
end Go.Proofs.YtdenbicnckkdfaaGreat

namespace Go.Proofs.YtdenbicnckkdfaaGreat
open Go.ChangeShapes Go.WideShapes Go.ChangeAt Go.RowKit
set_option linter.unusedVariables false
set_option linter.unusedSimpArgs false

def mP (l : List Lf) (k0 : Nat) : Nat → Nat
  | 0 => k0
  | i + 1 => mP l k0 i + (gL l i).p.length + 4

def mLf (k n : Nat) : Lf := ⟨(List.range n).map fun t => mkT (k + t), ((k + n : Nat) : Int) % 3 == 0, ((k + n + 1 : Nat) : Int), ((k + n + 2 : Nat) : Int), mkT (k + n + 3)⟩
def mkL (l : List Lf) (k0 : Nat) : List Lf := (List.range l.length).map fun i => mLf (mP l k0 i) (gL l i).p.length
theorem mkL_len (l : List Lf) (k0 : Nat) : (mkL l k0).length = l.length := by simp [mkL]
theorem mkL_at (l : List Lf) (k0 : Nat) {i : Nat} (hi : i < l.length) : gL (mkL l k0) i = mLf (mP l k0 i) (gL l i).p.length := by simp [gL, mkL, List.getD, hi]
theorem mLf_len (k n : Nat) : (mLf k n).p.length = n := by simp [mLf]
theorem mLf_s (k n : Nat) {t : Nat} (ht : t < n) : gS (mLf k n).p t = mkT (k + t) := by simp [gS, mLf, List.getD, ht]
theorem mP_le {l : List Lf} {k0 : Nat} (hp : ∀ i, (gL l i).p.length ≤ 1048576) : ∀ i, mP l k0 i ≤ k0 + i * 1048580
  | 0 => by simp [mP]
  | i + 1 => by have := mP_le (k0 := k0) hp i; have := hp i; simp only [mP]; omega
theorem mP_ge (l : List Lf) (k0 : Nat) : ∀ i, k0 ≤ mP l k0 i
  | 0 => Nat.le_refl _
  | i + 1 => by have := mP_ge l k0 i; simp only [mP]; omega

structure LWy (lo hi b : Nat) (l : List Lf) (P : Nat → Option Addr) (G : Nat → Nat) : Prop where
  b1 : lo ≤ b
  b2 : b < hi
  g1 : ∀ i, i < l.length → 0 < (gL l i).p.length → P i = some ⟨G i, 0, none⟩ ∧ G i ≠ b ∧ lo ≤ G i ∧ G i < hi
  sep : ∀ i j, i < l.length → j < l.length → 0 < (gL l i).p.length → 0 < (gL l j).p.length → i ≠ j → G i ≠ G j

structure LIn (w0 w : World) (lo hi b : Nat) (l : List Lf) (P : Nat → Option Addr) (Q G : Nat → Nat) (k0 js jc : Nat) : Prop where
  low : Btw lo hi w0 w
  run : ∀ (q : Nat) (cur : Array Value), w0.heap[q]? = some (Obj.cells cur 71 (0, 0)) → w.heap[q]? = w0.heap[q]?
  wr : ∃ C, Wr w b 69 (l.length * 5) C
  pth : ∀ i, i < l.length → w.cell? ⟨b, i * 5, none⟩ = some (.slice (P i) (gL l i).p.length (Q i))
  todo : ∀ i, js ≤ i → i < l.length → 0 < (gL l i).p.length → PMk w (G i) (gL l i).p.length
  done : ∀ i, i < js → i < l.length → 0 < (gL l i).p.length → Wr w (G i) 9 (gL l i).p.length (fun t => .string (mkT (mP l k0 i + t)))
  cel : ∀ i, i < jc → i < l.length → w.cell? ⟨b, i * 5 + 1, none⟩ = some (.bool (mLf (mP l k0 i) (gL l i).p.length).fl) ∧ w.cell? ⟨b, i * 5 + 2, none⟩ = some (.int .i64 (mLf (mP l k0 i) (gL l i).p.length).r) ∧ w.cell? ⟨b, i * 5 + 3, none⟩ = some (.int .i64 (mLf (mP l k0 i) (gL l i).p.length).q) ∧ w.cell? ⟨b, i * 5 + 4, none⟩ = some (.string (mLf (mP l k0 i) (gL l i).p.length).v)
theorem LIn.below {w0 w w' : World} {lo hi b : Nat} {l : List Lf} {P : Nat → Option Addr} {Q G : Nat → Nat} {k0 js jc : Nat} (h : LIn w0 w lo hi b l P Q G k0 js jc) (hb : Below w.heap.size w w') : LIn w0 w' lo hi b l P Q G k0 js jc := by
  obtain ⟨C, hC⟩ := h.wr
  have e := hb.block b hC.lt
  have q : ∀ i, w'.cell? ⟨b, i, none⟩ = w.cell? ⟨b, i, none⟩ := fun i => World.cell?_of_block (a := ⟨b, i, none⟩) e
  refine ⟨h.low.trans (Btw.below hb), fun q cur hq => (hb.block q (Nat.lt_of_lt_of_le (Array.getElem?_eq_some_iff.1 hq).1 h.low.size)).trans (h.run q cur hq), ⟨C, hC.same e⟩, fun i hi => (q _).trans (h.pth i hi), fun i h1 h2 h3 => ?_, fun i h1 h2 h3 => ?_, fun i h1 h2 => ?_⟩
  · obtain ⟨cur, k1, k2⟩ := h.todo i h1 h2 h3
    exact ⟨cur, (hb.block _ (Array.getElem?_eq_some_iff.1 k1).1).trans k1, k2⟩
  · exact (h.done i h1 h2 h3).same (hb.block _ (h.done i h1 h2 h3).lt)
  · rw [q, q, q, q]; exact h.cel i h1 h2
theorem LIn.set {w0 w : World} {lo hi b : Nat} {l : List Lf} {P : Nat → Option Addr} {Q G : Nat → Nat} {k0 js jc : Nat} (hw : LWy lo hi b l P G) (h : LIn w0 w lo hi b l P Q G k0 js jc) (o : Nat) (u : Value) (ho : jc * 5 < o ∧ o < jc * 5 + 5) : LIn w0 (w.setCell ⟨b, o, none⟩ u) lo hi b l P Q G k0 js jc := by
  obtain ⟨C, hC⟩ := h.wr
  have q : ∀ i, i ≠ o → (w.setCell ⟨b, o, none⟩ u).cell? ⟨b, i, none⟩ = w.cell? ⟨b, i, none⟩ := fun i hi => by simp [World.cell?_setCell_other, Ne.symm hi]
  refine ⟨h.low.set _ _ hw.b1 hw.b2, fun q cur hq => ?_, ⟨_, hC.set o u⟩, fun i hi => (q _ (by omega)).trans (h.pth i hi), fun i h1 h2 h3 => (h.todo i h1 h2 h3).any, fun i h1 h2 h3 => ?_, fun i h1 h2 => ?_⟩
  · refine (Below.heap_setCell _ _ _ _ ?_).trans (h.run q cur hq)
    intro e
    have e' : q = b := e
    subst e'
    obtain ⟨cur', k1, _⟩ := hC
    rw [h.run _ _ hq, hq] at k1
    injection k1 with k1
    injection k1 with _ k2
    exact absurd k2 (by decide)
  · exact (h.done i h1 h2 h3).same (Below.heap_setCell _ _ _ _ (hw.g1 i h2 h3).2.1)
  · rw [q _ (by omega), q _ (by omega), q _ (by omega), q _ (by omega)]; exact h.cel i h1 h2
theorem LIn.str {w0 w w' : World} {lo hi b : Nat} {l : List Lf} {P : Nat → Option Addr} {Q G : Nat → Nat} {k0 js : Nat} (hw : LWy lo hi b l P G) (h : LIn w0 w lo hi b l P Q G k0 js js) (hj : js < l.length) (h0 : 0 < (gL l js).p.length) (hg : w.grownBy w' (some (G js))) (hc : Wr w' (G js) 9 (gL l js).p.length (fun t => .string (mkT (mP l k0 js + t)))) (hpm : ∀ g' n', PMk w g' n' → PMk w' g' n') : LIn w0 w' lo hi b l P Q G k0 (js + 1) js := by
  obtain ⟨C, hC⟩ := h.wr
  have hs := hw.g1 js hj h0
  have e := hg.block b hC.lt (fun e => hs.2.1 (by injection e with e; exact e.symm))
  have q : ∀ i, w'.cell? ⟨b, i, none⟩ = w.cell? ⟨b, i, none⟩ := fun i => World.cell?_of_block (a := ⟨b, i, none⟩) e
  refine ⟨h.low.trans (Btw.of hg hs.2.2.1 hs.2.2.2), fun q cur hq => ?_, ⟨C, hC.same e⟩, fun i hi => (q _).trans (h.pth i hi), fun i h1 h2 h3 => hpm _ _ (h.todo i (by omega) h2 h3), fun i h1 h2 h3 => ?_, fun i h1 h2 => ?_⟩
  · refine (hg.block q (Nat.lt_of_lt_of_le (Array.getElem?_eq_some_iff.1 hq).1 h.low.size) (fun e => ?_)).trans (h.run q cur hq)
    injection e with e
    subst e
    obtain ⟨cur', k1, _⟩ := h.todo js (Nat.le_refl _) hj h0
    rw [h.run _ _ hq, hq] at k1
    injection k1 with k1
    injection k1 with _ k2
    exact absurd k2 (by decide)
  · by_cases ei : i = js
    · subst ei; exact hc
    · have hd := h.done i (by omega) h2 h3
      exact hd.same (hg.block _ hd.lt (fun e => by injection e with e; exact hw.sep i js h2 hj h3 h0 ei e))
  · rw [q, q, q, q]; exact h.cel i h1 h2
theorem LIn.skip {w0 w : World} {lo hi b : Nat} {l : List Lf} {P : Nat → Option Addr} {Q G : Nat → Nat} {k0 js jc : Nat} (h : LIn w0 w lo hi b l P Q G k0 js jc) (h0 : (gL l js).p.length = 0) : LIn w0 w lo hi b l P Q G k0 (js + 1) jc :=
  ⟨h.low, h.run, h.wr, h.pth, fun i h1 => h.todo i (by omega), fun i h1 h2 h3 => by
    by_cases ei : i = js
    · subst ei; omega
    · exact h.done i (by omega) h2 h3, h.cel⟩
theorem LIn.seg {w0 w w' : World} {lo hi b : Nat} {l : List Lf} {P : Nat → Option Addr} {Q G : Nat → Nat} {k0 : Nat} (hw : LWy lo hi b l P G) (h : LIn w0 w lo hi b l P Q G k0 l.length l.length) (hs : w.heap.size ≤ w'.heap.size) (hq : ∀ q, lo ≤ q → q < hi → q < w.heap.size → (∀ cur, w0.heap[q]? ≠ some (Obj.cells cur 71 (0, 0))) → w'.heap[q]? = w.heap[q]?) : LSeg w' (some ⟨b, 0, none⟩) (mkL l k0) := by
  obtain ⟨C, hC⟩ := h.wr
  have eb : w'.heap[b]? = w.heap[b]? := hq b hw.b1 hw.b2 hC.lt (fun cur e => by
    obtain ⟨cur', k1, _⟩ := hC
    rw [h.run _ _ e, e] at k1
    injection k1 with k1
    injection k1 with _ k2
    exact absurd k2 (by decide))
  have q : ∀ i, w'.cell? ⟨b, i, none⟩ = w.cell? ⟨b, i, none⟩ := fun i => World.cell?_of_block (a := ⟨b, i, none⟩) eb
  refine .inr ⟨b, 0, rfl, Nat.lt_of_lt_of_le hC.lt hs, fun i hi => ?_⟩
  rw [mkL_len] at hi
  have c := h.cel i hi hi
  rw [mkL_at l k0 hi, mLf_len, q, q, q, q, q]
  refine ⟨P i, Q i, by simpa using h.pth i hi, ?_, by simpa using c.1, by simpa using c.2.1, by simpa using c.2.2.1, by simpa using c.2.2.2⟩
  by_cases h0 : 0 < (gL l i).p.length
  · have hd := h.done i hi hi h0
    have eg : w'.heap[G i]? = w.heap[G i]? := hq (G i) (hw.g1 i hi h0).2.2.1 (hw.g1 i hi h0).2.2.2 hd.lt (fun cur e => by
      obtain ⟨cur', k1, _⟩ := hd
      rw [h.run _ _ e, e] at k1
      injection k1 with k1
      injection k1 with _ k2
      exact absurd k2 (by decide))
    have hd' := hd.same eg
    refine .inr ⟨G i, 0, (hw.g1 i hi h0).1, hd'.lt, fun t ht => ?_⟩
    rw [mLf_len] at ht
    rw [mLf_s _ _ ht]
    simpa using hd'.cell ht
  · exact .inl (by rw [mLf_len]; omega)
set_option maxHeartbeats 1000000 in
theorem markStrs0 (a : Option Addr) (c k0 : Nat) (w : World) : Calls Tryz.prog 84 #[.slice a 0 c, .int .i64 (k0 : Int)] w fun e w' => e = .returned (.int .i64 (k0 : Int)) ∧ w' = w := by
  go_enter Tryz.func84, Tryz.ntmps84
  go_wp2_with fail
  refine wp_loop_rounds 1 ?_; rw [rounds_succ]; go_wp2_with fail
  go_ret
  exact ⟨rfl, rfl⟩
theorem LIn.mark {w0 w : World} {lo hi b : Nat} {l : List Lf} {P : Nat → Option Addr} {Q G : Nat → Nat} {k0 js : Nat} (hw : LWy lo hi b l P G) (h : LIn w0 w lo hi b l P Q G k0 js js) (hj : js < l.length) (hk : mP l k0 js + (gL l js).p.length ≤ 10000000000000) :
    Calls Tryz.prog 84 #[.slice (P js) (gL l js).p.length (Q js), .int .i64 (mP l k0 js : Int)] w fun e w' => e = .returned (.int .i64 ((mP l k0 js + (gL l js).p.length : Nat) : Int)) ∧ LIn w0 w' lo hi b l P Q G k0 (js + 1) js := by
  by_cases h0 : 0 < (gL l js).p.length
  · obtain ⟨C, hC⟩ := (h.todo js (Nat.le_refl _) hj h0).wr
    rw [(hw.g1 js hj h0).1]
    refine (markStrings (G js) (gL l js).p.length (Q js) (mP l k0 js) C w hk hC).mono ?_
    rintro e w' ⟨rfl, g1, g2, g3⟩
    exact ⟨rfl, h.str hw hj h0 g1 g2 g3⟩
  · have hz : (gL l js).p.length = 0 := by omega
    rw [hz]
    refine (markStrs0 (P js) (Q js) (mP l k0 js) w).mono ?_
    rintro e w' ⟨rfl, rfl⟩
    exact ⟨rfl, h.skip hz⟩
set_option maxRecDepth 100000 in
set_option maxHeartbeats 2000000 in
theorem markLeavesK (lo hi b c k0 : Nat) (l : List Lf) (P : Nat → Option Addr) (Q G : Nat → Nat) (w : World) (hk : k0 ≤ 4000000000000) (hn : l.length ≤ 1048576) (hp : ∀ i, (gL l i).p.length ≤ 1048576) (hw : LWy lo hi b l P G) (h : LIn w w lo hi b l P Q G k0 0 0) :
    Calls Tryz.prog 51 #[.slice (some ⟨b, 0, none⟩) l.length c, .int .i64 (k0 : Int)] w fun e w' => e = .returned (.int .i64 (mP l k0 l.length : Int)) ∧ LIn w w' lo hi b l P Q G k0 l.length l.length := by
  have HI := hid h
  have HW := hid hw
  have HMP : Hid (∀ j, j < l.length → ∀ wr, LIn w wr lo hi b l P Q G k0 j j → Calls Tryz.prog 84 #[.slice (P j) (gL l j).p.length (Q j), .int .i64 (mP l k0 j : Int)] wr fun e w' => e = .returned (.int .i64 ((mP l k0 j + (gL l j).p.length : Nat) : Int)) ∧ LIn w w' lo hi b l P Q G k0 (j + 1) j) := hid (fun j hj wr hI => hI.mark hw hj (by have := mP_le (k0 := k0) hp j; have := hp j; omega))
  have HLE := hid (mP_le (l := l) (k0 := k0) hp)
  clear h hw
  go_enter Tryz.func51, Tryz.ntmps51
  go_wp2_with fail
  go_loopw [1, 5] (fun q i wr => ∃ (j m : Nat), j ≤ l.length ∧ i = .int .i64 (j : Int) ∧ q = .int .i64 (m : Int) ∧ Hid (mP l k0 j = m) ∧ Hid (LIn w wr lo hi b l P Q G k0 j j)) (fun _ i _ => l.length - (intOf i).toNat)
  case atStart => exact ⟨0, k0, Nat.zero_le _, rfl, rfl, hid rfl, HI⟩
  case round =>
    obtain ⟨j, m, hj, rfl, rfl, HM, HL⟩ := hrel
    by_cases hlt : j < l.length
    · have i1 : (0 : Int) ≤ (j : Int) := Int.natCast_nonneg _
      have i2 : (j : Int) < (l.length : Int) := by omega
      have g1 := HL.out.pth j hlt
      have HMS := hid (HMP.out j hlt wr HL.out)
      have hpj := hp j
      have hmj : m ≤ k0 + j * 1048580 := by have := HLE.out j; rw [HM.out] at this; exact this
      have HNX : Hid (mP l k0 (j + 1) = m + (gL l j).p.length + 4) := hid (by simp only [mP]; rw [HM.out])
      have HCE : Hid (∀ w', w'.cell? ⟨b, j * 5 + 1, none⟩ = some (.bool (((m + (gL l j).p.length : Nat) : Int) % 3 == 0)) → w'.cell? ⟨b, j * 5 + 2, none⟩ = some (.int .i64 ((m + (gL l j).p.length + 1 : Nat) : Int)) → w'.cell? ⟨b, j * 5 + 3, none⟩ = some (.int .i64 ((m + (gL l j).p.length + 2 : Nat) : Int)) → w'.cell? ⟨b, j * 5 + 4, none⟩ = some (.string (mkT (m + (gL l j).p.length + 3))) → LIn w w' lo hi b l P Q G k0 (j + 1) j → LIn w w' lo hi b l P Q G k0 (j + 1) (j + 1)) := hid (fun w' c1 c2 c3 c4 h => ⟨h.low, h.run, h.wr, h.pth, h.todo, h.done, fun i h1 h2 => by
        by_cases ei : i = j
        · subst ei; rw [HM.out]; exact ⟨c1, c2, c3, c4⟩
        · exact h.cel i (by omega) h2⟩)
      obtain ⟨np, hnp⟩ : ∃ np, (gL l j).p.length = np := ⟨_, rfl⟩
      rw [HM.out] at HMS
      rw [hnp] at g1 hpj HMS HNX HCE
      clear hnp
      obtain ⟨pj, hpj'⟩ : ∃ pj, P j = pj := ⟨_, rfl⟩
      obtain ⟨qj, hqj⟩ : ∃ qj, Q j = qj := ⟨_, rfl⟩
      rw [hpj', hqj] at g1 HMS
      clear hpj' hqj
      go_wp2_with fail
      refine HMS.out.mono ?_
      rintro e w1 ⟨rfl, L1⟩
      obtain ⟨C, hC⟩ := L1.wr
      have HL1 := hid L1
      obtain ⟨m1, hm1⟩ : ∃ m1, m + np = m1 := ⟨_, rfl⟩
      have hm2 : m1 ≤ k0 + j * 1048580 + 1048576 := by omega
      rw [hm1] at HNX HCE ⊢
      have c1 := hC.cell (i := j * 5 + 1) (by omega)
      have c2 := hC.cell (i := j * 5 + 2) (by omega)
      have c3 := hC.cell (i := j * 5 + 3) (by omega)
      have f1 := hC.frozen (j * 5 + 1)
      have f2 := hC.frozen (j * 5 + 2)
      have f3 := hC.frozen (j * 5 + 3)
      have HC := hid hC
      clear hC L1 HMS hm1 g1 HL HMP
      go_wp2_with fail
      obtain ⟨W3, hW3⟩ : ∃ W3, ((w1.setCell ⟨b, j * 5 + 1, none⟩ (.bool ((m1 : Int) % 3 == 0))).setCell ⟨b, j * 5 + 2, none⟩ (.int .i64 ((m1 : Int) + 1))).setCell ⟨b, j * 5 + 2 + 1, none⟩ (.int .i64 ((m1 : Int) + 1 + 1)) = W3 := ⟨_, rfl⟩
      rw [hW3]
      have L3 : LIn w W3 lo hi b l P Q G k0 (j + 1) j := by rw [← hW3]; exact ((HL1.out.set HW.out _ _ (by omega)).set HW.out _ _ (by omega)).set HW.out _ _ (by omega)
      have C3 := ((HC.out.set (j * 5 + 1) (.bool ((m1 : Int) % 3 == 0))).set (j * 5 + 2) (.int .i64 ((m1 : Int) + 1))).set (j * 5 + 2 + 1) (.int .i64 ((m1 : Int) + 1 + 1))
      rw [hW3] at C3
      have MT := markTextC (m1 + 3) W3 (by omega)
      have e3 : ((m1 + 3 : Nat) : Int) = (m1 : Int) + 1 + 1 + 1 := by omega
      rw [e3] at MT
      clear hW3 c1 c2 c3 f1 f2 f3 HL1 e3
      refine MT.mono ?_
      rintro e w4 ⟨rfl, b4⟩
      have L4 := L3.below b4
      have C4 := C3.same (b4.block b C3.lt)
      have c4 := C4.cell (i := j * 5 + 4) (by omega)
      have f4 := C4.frozen (j * 5 + 4)
      have C5 := C4.set (j * 5 + 4) (.string (mkT (m1 + 3)))
      have HL5 : Hid (LIn w (w4.setCell ⟨b, j * 5 + 4, none⟩ (.string (mkT (m1 + 3)))) lo hi b l P Q G k0 (j + 1) (j + 1)) := hid (by
        refine HCE.out _ ?_ ?_ ?_ ?_ (L4.set HW.out _ _ (by omega))
        · rw [C5.cell (i := j * 5 + 1) (by omega)]; simp
        · rw [C5.cell (i := j * 5 + 2) (by omega)]; simp
        · rw [C5.cell (i := j * 5 + 3) (by omega)]; simp; omega
        · rw [C5.cell (i := j * 5 + 4) (by omega)]; simp)
      obtain ⟨t4, ht4⟩ : ∃ t4, mkT (m1 + 3) = t4 := ⟨_, rfl⟩
      rw [ht4] at HL5
      rw [ht4]
      clear C5 C4 C3 L4 L3 b4 MT ht4 HC HCE
      go_wp2_with fail
      go_roundw
      case rel => exact ⟨j + 1, m1 + 4, hlt, by go_num, by go_num, HNX, HL5⟩
      case measure => simp [intOf]; omega
    · obtain rfl : j = l.length := by omega
      have HE := HM
      clear HM
      go_wp2_with fail
      go_ret
      exact ⟨by rw [HE.out]; rfl, HL.out⟩
end Go.Proofs.YtdenbicnckkdfaaGreat
