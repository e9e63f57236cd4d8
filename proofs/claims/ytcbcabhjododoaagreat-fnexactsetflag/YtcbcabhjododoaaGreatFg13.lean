import Derived.Test.YtcbcabhjododoaaGreatFg12
import Derived.Test.YtcbcabhjododoaaGreatFg05
import Derived.Test.YtcbcabhjododoaaGreatFg11
set_option linter.unusedVariables false
set_option linter.unusedSimpArgs false
set_option maxRecDepth 100000
set_option maxHeartbeats 40000000
namespace Go.Proofs.YtcbcabhjododoaaGreat
open Go.ChangeShapes Go.WideShapes Go.ChangeAt Go.RowKit Go.Maps
theorem SSeg.gt {w w1 : World} {B : Nat} {a : Option Addr} {p : List ByteArray} (h : SSeg w a p) (hg : Gt B w w1) : SSeg w1 a p := by
 refine h.imp id ?_
 rintro ⟨b, off, e, hlt, hc⟩
 exact ⟨b, off, e, Nat.lt_of_lt_of_le hlt hg.size, fun i hi => hg.cell (hc i hi)⟩
theorem LSeg.gt {w w1 : World} {B : Nat} {a : Option Addr} {l : List Lf} (h : LSeg w a l) (hg : Gt B w w1) : LSeg w1 a l := by
 refine h.imp id ?_
 rintro ⟨b, off, e, hlt, hc⟩
 refine ⟨b, off, e, Nat.lt_of_lt_of_le hlt hg.size, fun i hi => ?_⟩
 obtain ⟨pa, pc, c0, s, c1, c2, c3, c4⟩ := hc i hi
 exact ⟨pa, pc, hg.cell c0, s.gt hg, hg.cell c1, hg.cell c2, hg.cell c3, hg.cell c4⟩
def onWay (p : List ByteArray) (k : Int) (i : Nat) : Ky := (gS p i, if i + 1 < p.length then 3 else k)
theorem keyOnWay (p : List ByteArray) (a : Option Addr) (c : Nat) (k : Int) (i : Nat) (w : World) (hp : p.length ≤ 1048576) (hi : i < p.length) (h : SSeg w a p) :
  Calls Tryz.prog 88 #[.slice a p.length c, .int .i64 i, .int .i64 k] w fun e w' => e = .returned (keyV (onWay p k i)) ∧ Below w.heap.size w w' := by
 rcases h with h | ⟨b, off, rfl, hb, hc⟩
 ·omega
 have x0 := hc i hi
 have i0 : (0 : Int) ≤ (i : Int) := Int.natCast_nonneg _
 have i1 : (i : Int) < (p.length : Int) := by omega
 obtain ⟨s, hs⟩ : ∃ s, gS p i = s := ⟨_, rfl⟩
 rw [hs] at x0
 have HK : Hid (onWay p k i = (s, if i + 1 < p.length then 3 else k)) := hid (by unfold onWay; rw [hs])
 obtain ⟨m, hm⟩ : ∃ m : Nat, p.length = m + 1 := ⟨p.length - 1, by omega⟩
 have hwr : IntKind.i64.wrap ((p.length : Int) - 1) = (m : Int) := by rw [IntKind.wrap_i64]; omega
 clear hs hc
 by_cases hl : i + 1 < p.length
 ·have d0 : decide (i < m) = true := by simp; omega
  have HK2 := hid (show onWay p k i = (s, 3) by rw [HK.out, if_pos hl])
  clear HK hl hm
  go_enter Tryz.func88, Tryz.ntmps88
  go_wp2_with fail
  refine bodyPost_ret (v := .agg #[.string s, .int .i64 3]) (by simp [results, Tryz.results88, go_sem]) rfl ⟨by rw [HK2.out]; rfl, ?_⟩
  exact (Below.refl _ _).alloc (Nat.le_refl _) _
 ·have d0 : decide (i < m) = false := by simp; omega
  have HK2 := hid (show onWay p k i = (s, k) by rw [HK.out, if_neg hl])
  clear HK hl hm
  go_enter Tryz.func88, Tryz.ntmps88
  go_wp2_with fail
  refine bodyPost_ret (v := .agg #[.string s, .int .i64 k]) (by simp [results, Tryz.results88, go_sem]) rfl ⟨by rw [HK2.out]; rfl, ?_⟩
  exact (Below.refl _ _).alloc (Nat.le_refl _) _
theorem newNode (w : World) :
  Calls Tryz.prog 58 #[] w fun e w' => ∃ s s', e = .returned (.agg #[.map (some s), .map (some s')]) ∧ s ≠ s' ∧ w.heap.size ≤ s ∧ w.heap.size ≤ s' ∧ MapF w' 140 (α := Ky) keyV nodV s 0 (fun _ => none) ∧ MapF w' 55 (α := Dt) dtV mrkV s' 0 (fun _ => none) ∧ Below w.heap.size w w' := by
 have hmm := @run_makeMap Tryz.prog
 have H1 := hid ((MapF.made (α := Ky) (w.alloc (.cells #[.map (some (w.heap.size + 1)), .map (some (w.heap.size + 1 + 1))] 64)) 140 keyV nodV).same (w' := (((w.alloc (.cells #[.map (some (w.heap.size + 1)), .map (some (w.heap.size + 1 + 1))] 64)).alloc (.map #[] 0)).alloc (.map #[] 0))) (Below.heap_alloc _ _ _ (by simp)))
 have H2 := hid (MapF.made (α := Dt) ((w.alloc (.cells #[.map (some (w.heap.size + 1)), .map (some (w.heap.size + 1 + 1))] 64)).alloc (.map #[] 0)) 55 dtV mrkV)
 go_enter Tryz.func58, Tryz.ntmps58
 go_wp2_with fail
 refine bodyPost_ret (v := .agg #[.map (some (w.heap.size + 1)), .map (some (w.heap.size + 1 + 1))]) (by simp [results, Tryz.results58, go_sem]) rfl ⟨_, _, rfl, by omega, by omega, by omega, by simpa using H1.out, by simpa using H2.out, ?_⟩
 exact (((Below.refl _ _).alloc (Nat.le_refl _) _).alloc (by simp) _).alloc (by simp; omega) _
structure Bx2 (w : World) (b : Nat) (v0 v1 : Value) : Prop where
 c0 : w.cell? ⟨b, 0, none⟩ = some v0
 c1 : w.cell? ⟨b, 1, none⟩ = some v1
 f : ∀ i, w.frozen? ⟨b, i, none⟩ = false
 lt : b < w.heap.size
theorem Bx2.below {w w' : World} {B b : Nat} {v0 v1 : Value} (h : Bx2 w b v0 v1) (hb : Below B w w') (hB : b < B) : Bx2 w' b v0 v1 :=
 ⟨(hb.cell (p := ⟨b, 0, none⟩) hB).trans h.c0, (hb.cell (p := ⟨b, 1, none⟩) hB).trans h.c1, fun i => (hb.frozen (p := ⟨b, i, none⟩) hB).trans (h.f i), Nat.lt_of_lt_of_le h.lt hb.size⟩
theorem Bx2.gt {w w' : World} {B b : Nat} {v0 v1 : Value} (h : Bx2 w b v0 v1) (hg : Gt B w w') : Bx2 w' b v0 v1 :=
 ⟨hg.cell h.c0, hg.cell h.c1, fun i => (hg.frozen (q := ⟨b, i, none⟩) h.c0 rfl).trans (h.f i), Nat.lt_of_lt_of_le h.lt hg.size⟩
theorem Bx2.setAt {w : World} {b : Nat} {v0 v1 : Value} (h : Bx2 w b v0 v1) (q : Addr) (u : Value) (hq : q.block ≠ b) : Bx2 (w.setCell q u) b v0 v1 :=
 ⟨by rw [World.cell?_setCell_far _ _ _ _ hq]; exact h.c0, by rw [World.cell?_setCell_far _ _ _ _ hq]; exact h.c1, fun i => by rw [World.frozen?_setCell]; exact h.f i, by simp [World.setCell]; exact h.lt⟩
theorem Bx2.set0 {w : World} {b : Nat} {v0 v1 : Value} (h : Bx2 w b v0 v1) (u : Value) : Bx2 (w.setCell ⟨b, 0, none⟩ u) b u v1 :=
 ⟨World.cell?_setCell_same _ _ _ h.c0, by simp [World.cell?_setCell_other, h.c1], fun i => by rw [World.frozen?_setCell]; exact h.f i, by simp [World.setCell]; exact h.lt⟩
theorem Bx2.set1 {w : World} {b : Nat} {v0 v1 : Value} (h : Bx2 w b v0 v1) (u : Value) : Bx2 (w.setCell ⟨b, 1, none⟩ u) b v0 u :=
 ⟨by simp [World.cell?_setCell_other, h.c0], World.cell?_setCell_same _ _ _ h.c1, fun i => by rw [World.frozen?_setCell]; exact h.f i, by simp [World.setCell]; exact h.lt⟩
theorem Bx2.set {w : World} {b : Nat} {v0 v1 : Value} (h : Bx2 w b v0 v1) (u u' : Value) : Bx2 ((w.setCell ⟨b, 0, none⟩ u).setCell ⟨b, 1, none⟩ u') b u u' := (h.set0 u).set1 u'
theorem Bx2.made (w : World) (v0 v1 : Value) (t : TypeId) : Bx2 (w.alloc (.cells #[v0, v1] t)) w.heap.size v0 v1 := ⟨by simp, by simp, fun i => by simp, by simp⟩
theorem Bx2.allocs {w : World} {b : Nat} {v0 v1 : Value} (h : Bx2 w b v0 v1) (o : Obj) : Bx2 (w.alloc o) b v0 v1 := h.below ((Below.refl _ _).alloc (Nat.le_refl _) o) h.lt
structure Bx1 (w : World) (b : Nat) (v0 : Value) : Prop where
 c0 : w.cell? ⟨b, 0, none⟩ = some v0
 f : ∀ i, w.frozen? ⟨b, i, none⟩ = false
 lt : b < w.heap.size
theorem Bx1.below {w w' : World} {B b : Nat} {v0 : Value} (h : Bx1 w b v0) (hb : Below B w w') (hB : b < B) : Bx1 w' b v0 :=
 ⟨(hb.cell (p := ⟨b, 0, none⟩) hB).trans h.c0, fun i => (hb.frozen (p := ⟨b, i, none⟩) hB).trans (h.f i), Nat.lt_of_lt_of_le h.lt hb.size⟩
theorem Bx1.gt {w w' : World} {B b : Nat} {v0 : Value} (h : Bx1 w b v0) (hg : Gt B w w') : Bx1 w' b v0 :=
 ⟨hg.cell h.c0, fun i => (hg.frozen (q := ⟨b, i, none⟩) h.c0 rfl).trans (h.f i), Nat.lt_of_lt_of_le h.lt hg.size⟩
theorem Bx1.setAt {w : World} {b : Nat} {v0 : Value} (h : Bx1 w b v0) (q : Addr) (u : Value) (hq : q.block ≠ b) : Bx1 (w.setCell q u) b v0 :=
 ⟨by rw [World.cell?_setCell_far _ _ _ _ hq]; exact h.c0, fun i => by rw [World.frozen?_setCell]; exact h.f i, by simp [World.setCell]; exact h.lt⟩
theorem Bx1.made (w : World) (v0 : Value) (t : TypeId) : Bx1 (w.alloc (.cells #[v0] t)) w.heap.size v0 := ⟨by simp, fun i => by simp, by simp⟩
theorem Gt.set {B : Nat} {w wr : World} (h : Gt B w wr) (q : Addr) (u : Value) (hq : w.heap.size ≤ q.block) : Gt B w (wr.setCell q u) :=
 ⟨h.os, h.tape, h.output, by simpa [World.setCell] using h.size, fun g hg ho => (Below.heap_setCell _ _ _ _ (by omega)).trans (h.block g hg ho)⟩
theorem Gt.keep {B : Nat} {w wr w1 : World} (h : Gt B w wr) (hb : Below wr.heap.size wr w1) : Gt B w w1 := h.trans (Gt.of_below hb)
theorem wpList_mapUpdate_F {α β : Type} (w : World) {ops : Array Oper} {rest : List Oper} {o : Oper} {a : Act} {Q : Exit → Act → World → Prop}
  (hg : o.guard = none) (m x v : Operand) (mt : TypeId) (hop : o.op = Op.mapUpdate mt m x v) (t e : TypeId) (K : Keyed Tryz.prog t) (kv : α → Value) (hi : ∀ x y, kv x = kv y → x = y) (ht : Tryz.prog.underlying mt = some (.map t e)) (vo : Option β → Value) (b c : Nat) (f : α → Option β)
  (hm : a.eval m = .map (some b)) (h : MapF w t kv vo b c f) (hc : c < maxLen) (k : α) (y : β) (kl : Lit) (hx : a.eval x = kv k) (hv : a.eval v = vo (some y)) (hk : keyOf Tryz.prog t (kv k) = some kl)
  (hK : ∀ w', MapF w' t kv vo b (c + 1) (updF f k (some y)) → w.grownBy w' (some b) → wpList Tryz.prog ops Q rest (a.put o.dst undef) w') :
  wpList Tryz.prog ops Q (o :: rest) a w := by
 refine wpList_plain hg fun K' hK' => ?_
 obtain ⟨w', hrun, r1, r2⟩ := h.store K hi ht hc (y := y) hk
 unfold Oper.wp
 simp [execOp, hop, hm, hx, hv, hrun, Result.andThen]
 exact hK' _ _ (hK w' r1 r2)
end Go.Proofs.YtcbcabhjododoaaGreat
namespace Go.Proofs.YtcbcabhjododoaaGreat
open Go.ChangeShapes Go.WideShapes Go.ChangeAt Go.RowKit
theorem heldSeg (a : Option Addr) (n c k0 : Nat) (w : World) (hk : k0 + n ≤ 10000000000000) (hn : n ≤ 1048576) (h : n = 0 ∨ ∃ b off, a = some ⟨b, off, none⟩ ∧ b < w.heap.size ∧ ∀ t, t < n → w.cell? ⟨b, off + t, none⟩ = some (.string (mkT (k0 + t)))) :
  Calls Tryz.prog 63 #[.slice a n c, .int .i64 (k0 : Int)] w fun e w' => e = .returned (.int .i64 ((k0 + n : Nat) : Int)) ∧ Below w.heap.size w w' := by
 have HW := hid h
 clear h
 go_enter Tryz.func63, Tryz.ntmps63
 go_wp2_with fail
 go_loopw [1, 5] (fun q i wr => ∃ (j m : Nat), j ≤ n ∧ m ≤ 10000000000000 ∧ Hid (m = k0 + j) ∧ i = .int .i64 (j : Int) ∧ q = .int .i64 (m : Int) ∧ Hid (Below w.heap.size w wr)) (fun _ i _ => n - (intOf i).toNat)
 case atStart => exact ⟨0, k0, Nat.zero_le _, by omega, hid (by omega), rfl, rfl, hid (Below.refl _ _)⟩
 case round =>
  obtain ⟨j, m, hj, hm, HM, rfl, rfl, HB⟩ := hrel
  by_cases hlt : j < n
  ·have i1 : (0 : Int) ≤ (j : Int) := Int.natCast_nonneg _
   have i2 : (j : Int) < (n : Int) := by omega
   obtain ⟨g, off, rfl, hg, hc⟩ := HW.out.resolve_left (by omega)
   have zg : g < wr.heap.size := Nat.lt_of_lt_of_le hg HB.out.size
   have c0 := (HB.out.cell (p := ⟨g, off + j, none⟩) hg).trans (hc j hlt)
   have e0 : mkT (k0 + j) = mkT m := by rw [HM.out]
   rw [e0] at c0
   obtain ⟨s, hs⟩ : ∃ s, mkT m = s := ⟨_, rfl⟩
   rw [hs] at c0
   have HT : Hid (∀ w1, Calls Tryz.prog 35 #[.int .i64 (m : Int)] w1 fun e w' => e = .returned (.string s) ∧ Below w1.heap.size w1 w') := hid (fun w1 => by rw [← hs]; exact markTextC m w1 (by omega))
   have hss : (s.toList == s.toList) = true := by simp
   clear hs e0 hc
   go_wp2_with fail
   have HCS : Hid (∀ w', Below wr.heap.size wr w' → (Below wr.heap.size wr w' ∧ w'.cell? ⟨g, off + j, none⟩ = some (.string s))) := hid (fun w' hB => ⟨hB, (hB.cell (p := ⟨g, _, none⟩) zg).trans c0⟩)
   refine wp_region_held_drew (S := fun w' => Below wr.heap.size wr w' ∧ w'.cell? ⟨g, off + j, none⟩ = some (.string s)) (by kernel_rfl) (HCS.out _ (Below.refl _ _).drew) (fun hHeld => ?_)
   refine tk 0 12 ?_ (by kernel_rfl) (fun _ _ _ h => h) ?_ hHeld (tk 1 13 ?_ (by kernel_rfl) (fun _ _ _ h => h) ?_ hHeld (tk 2 14 ?_ (by kernel_rfl) (fun _ _ _ h => h) ?_ hHeld (tk 3 15 ?_ (by kernel_rfl) (fun _ _ _ h => h) ?_ hHeld (tk 4 16 ?_ (by kernel_rfl) (fun _ _ _ h => h) ?_ hHeld ?_))))
   iterate 5 (rotate_left; focus (intro o ho; simp only [gZa, gZb, gZc, gZd] at ho; subst ho; refine Or.inl ⟨by rfl, ?_⟩; intro w hSw; (try dsimp only at hSw); (try simp only [Act.put, sZa, sZb, sZc]); go_simp; try with_reducible rfl))
   try simp only [Act.put, sZa, sZb, sZc]
   refine call1 (i := 5) (d := some 17) (by kernel_rfl) (by kernel_rfl) ?_
   intro o ho hod K hK; simp only [gZa, gZb, gZc, gZd] at ho; subst ho
   go_simp
   refine (HT.out _).mono ?_
   rintro e w2 ⟨rfl, b2⟩
   have hB := keepS hHeld.1 b2
   refine hK.out _ _ (HCS.out _ hB) (fun hHeld => ?_)
   clear hK K
   try simp only [Act.put, sZa, sZb, sZc]
   refine tk 6 18 ?_ (by kernel_rfl) (fun _ _ _ h => h) ?_ hHeld ?_
   rotate_left
   ·(intro o ho; simp only [gZa, gZb, gZc, gZd] at ho; subst ho; refine Or.inl ⟨by rfl, ?_⟩; intro w hSw; (try dsimp only at hSw); go_simp; try with_reducible rfl)
   try simp only [Act.put, sZa, sZb, sZc]
   refine wpAnyH_done (by kernel_rfl) ?_ _
   have HZ := hid (HB.out.trans (hB.mono HB.out.size))
   clear hHeld hB b2
   go_wp2_with fail
   go_roundw
   case rel => exact ⟨j + 1, m + 1, hlt, by have := HM.out; omega, hid (by have := HM.out; omega), by go_num, by go_num, HZ⟩
   case measure => simp [intOf]; omega
  ·obtain rfl : j = n := by omega
   go_wp2_with fail
   go_ret
   exact ⟨by rw [← HM.out]; rfl, HB.out⟩
theorem heldLeavesK (a : Option Addr) (c k0 : Nat) (l : List Lf) (w : World) (hk : k0 ≤ 4000000000000) (hn : l.length ≤ 1048576) (hp : ∀ i, (gL l i).p.length ≤ 1048576) (h : LSeg w a (mkL l k0)) :
  Calls Tryz.prog 36 #[.slice a l.length c, .int .i64 (k0 : Int)] w fun e w' => e = .returned (.int .i64 (mP l k0 l.length : Int)) ∧ Below w.heap.size w w' := by
 have HW := hid h
 have HLE := hid (mP_le (l := l) (k0 := k0) hp)
 clear h
 go_enter Tryz.func36, Tryz.ntmps36
 go_wp2_with fail
 go_loopw [1, 5] (fun q i wr => ∃ (j m : Nat), j ≤ l.length ∧ i = .int .i64 (j : Int) ∧ q = .int .i64 (m : Int) ∧ Hid (mP l k0 j = m) ∧ Hid (Below w.heap.size w wr)) (fun _ i _ => l.length - (intOf i).toNat)
 case atStart => exact ⟨0, k0, Nat.zero_le _, rfl, rfl, hid rfl, hid (Below.refl _ _)⟩
 case round =>
  obtain ⟨j, m, hj, rfl, rfl, HM, HB⟩ := hrel
  by_cases hlt : j < l.length
  ·have i1 : (0 : Int) ≤ (j : Int) := Int.natCast_nonneg _
   have i2 : (j : Int) < (l.length : Int) := by omega
   have hpj := hp j
   have hmj : m ≤ k0 + j * 1048580 := by have := HLE.out j; rw [HM.out] at this; exact this
   have HNX : Hid (mP l k0 (j + 1) = m + (gL l j).p.length + 4) := hid (by simp only [mP]; rw [HM.out])
   rcases HW.out with h0 | ⟨b, off, rfl, hb, hc⟩
   ·rw [mkL_len] at h0; omega
   obtain ⟨pa, pc, c0, hs, c1, c2, c3, c4⟩ := hc j (by rw [mkL_len]; exact hlt)
   rw [mkL_at l k0 hlt, mLf_len] at c0
   rw [mkL_at l k0 hlt] at hs c1 c2 c3 c4
   rw [HM.out] at hs c1 c2 c3 c4
   have hzb : b < wr.heap.size := Nat.lt_of_lt_of_le hb HB.out.size
   obtain ⟨np, hnp⟩ : ∃ np, (gL l j).p.length = np := ⟨_, rfl⟩
   rw [hnp] at c0 hs c1 c2 c3 c4 HNX hpj
   have HSg : Hid (∀ w', Below w.heap.size w w' → Calls Tryz.prog 63 #[.slice pa np pc, .int .i64 (m : Int)] w' fun e w'' => e = .returned (.int .i64 ((m + np : Nat) : Int)) ∧ Below w'.heap.size w' w'') := hid (fun w' hb' => heldSeg pa np pc m w' (by omega) hpj (by
    rcases hs with hs | ⟨g, o, rfl, hg, hcc⟩
    ·exact .inl (by rw [mLf_len] at hs; exact hs)
    ·refine .inr ⟨g, o, rfl, Nat.lt_of_lt_of_le hg hb'.size, fun t ht => ?_⟩
     have := hcc t (by rw [mLf_len]; exact ht)
     rw [mLf_s _ _ ht] at this
     exact (hb'.cell (p := ⟨g, o + t, none⟩) hg).trans this))
   have HCC : Hid (∀ w', Below w.heap.size w w' → w'.cell? ⟨b, off + j * 5, none⟩ = some (.slice pa np pc) ∧ w'.cell? ⟨b, off + j * 5 + 1, none⟩ = some (.bool (((m + np : Nat) : Int) % 3 == 0)) ∧ w'.cell? ⟨b, off + j * 5 + 2, none⟩ = some (.int .i64 ((m + np + 1 : Nat) : Int)) ∧ w'.cell? ⟨b, off + j * 5 + 3, none⟩ = some (.int .i64 ((m + np + 2 : Nat) : Int)) ∧ w'.cell? ⟨b, off + j * 5 + 4, none⟩ = some (.string (mkT (m + np + 3)))) := hid (fun w' hb' => ⟨(hb'.cell (p := ⟨b, _, none⟩) hb).trans c0, (hb'.cell (p := ⟨b, _, none⟩) hb).trans c1, (hb'.cell (p := ⟨b, _, none⟩) hb).trans c2, (hb'.cell (p := ⟨b, _, none⟩) hb).trans c3, (hb'.cell (p := ⟨b, _, none⟩) hb).trans c4⟩)
   clear hc c0 c1 c2 c3 c4 hs hnp
   obtain ⟨m1, hm1⟩ : ∃ m1, m + np = m1 := ⟨_, rfl⟩
   rw [hm1] at HNX HCC HSg
   have hm2 : m1 ≤ k0 + j * 1048580 + 1048576 := by omega
   obtain ⟨c0, c1, c2, c3, c4⟩ := HCC.out wr HB.out
   have HS1 := hid (HSg.out wr HB.out)
   clear hm1 HSg
   have dm : decide ((m1 : Int) < 0) = false := by simp
   go_wp2_with fail
   refine HS1.out.mono ?_
   rintro e w1 ⟨rfl, b1⟩
   have HB1 := hid (HB.out.trans (b1.mono HB.out.size))
   clear c0 c1 c2 c3 c4 b1 HS1
   obtain ⟨c0, c1, c2, c3, c4⟩ := HCC.out w1 HB1.out
   have e2 : ((m1 + 1 : Nat) : Int) = (m1 : Int) + 1 := by omega
   have e3 : ((m1 + 2 : Nat) : Int) = (m1 : Int) + 1 + 1 := by omega
   rw [e2] at c2
   rw [e3] at c3
   obtain ⟨s, hs⟩ : ∃ s, mkT (m1 + 3) = s := ⟨_, rfl⟩
   rw [hs] at c4
   have HT : Hid (∀ w1, Calls Tryz.prog 35 #[.int .i64 ((m1 : Int) + 1 + 1 + 1)] w1 fun e w' => e = .returned (.string s) ∧ Below w1.heap.size w1 w') := hid (fun w1 => by rw [← hs, show (m1 : Int) + 1 + 1 + 1 = ((m1 + 3 : Nat) : Int) by omega]; exact markTextC (m1 + 3) w1 (by omega))
   have hss : (s.toList == s.toList) = true := by simp
   obtain ⟨F, hF⟩ : ∃ F, ((m1 : Int) % 3 == 0) = F := ⟨_, rfl⟩
   have hFF : (F != F) = false := by simp
   have hF2 : (F == F) = true := by simp
   rw [hF] at c1
   clear hs e2 e3
   have zb1 : b < w1.heap.size := Nat.lt_of_lt_of_le hb HB1.out.size
   go_wp2_with fail
   have HCS : Hid (∀ w', Below w1.heap.size w1 w' → (Below w1.heap.size w1 w' ∧ w'.cell? ⟨b, off + j * 5 + 4, none⟩ = some (.string s))) := hid (fun w' hB => ⟨hB, (hB.cell (p := ⟨b, _, none⟩) zb1).trans c4⟩)
   refine wp_region_held_drew (S := fun w' => Below w1.heap.size w1 w' ∧ w'.cell? ⟨b, off + j * 5 + 4, none⟩ = some (.string s)) (by kernel_rfl) (HCS.out _ (Below.refl _ _).drew) (fun hHeld => ?_)
   refine tk 0 52 ?_ (by kernel_rfl) (fun _ _ _ h => h) ?_ hHeld (tk 1 53 ?_ (by kernel_rfl) (fun _ _ _ h => h) ?_ hHeld (tk 2 54 ?_ (by kernel_rfl) (fun _ _ _ h => h) ?_ hHeld (tk 3 55 ?_ (by kernel_rfl) (fun _ _ _ h => h) ?_ hHeld (tk 4 56 ?_ (by kernel_rfl) (fun _ _ _ h => h) ?_ hHeld ?_))))
   iterate 5 (rotate_left; focus (intro o ho; simp only [gZa, gZb, gZc, gZd] at ho; subst ho; refine Or.inl ⟨by rfl, ?_⟩; intro w hSw; (try dsimp only at hSw); (try simp only [Act.put, sZa, sZb, sZc]); go_simp; try with_reducible rfl))
   try simp only [Act.put, sZa, sZb, sZc]
   refine tk 5 57 ?_ (by kernel_rfl) (fun _ _ _ h => h) ?_ hHeld ?_
   rotate_left
   ·(intro o ho; simp only [gZa, gZb, gZc, gZd] at ho; subst ho; refine Or.inl ⟨by rfl, ?_⟩; intro w hSw; (try dsimp only at hSw); go_simp; try with_reducible rfl)
   try simp only [Act.put, sZa, sZb, sZc]
   refine call1 (i := 6) (d := some 58) (by kernel_rfl) (by kernel_rfl) ?_
   intro o ho hod K hK; simp only [gZa, gZb, gZc, gZd] at ho; subst ho
   go_simp
   refine (HT.out _).mono ?_
   rintro e w2 ⟨rfl, b2⟩
   have hB := keepS hHeld.1 b2
   refine hK.out _ _ (HCS.out _ hB) (fun hHeld => ?_)
   clear hK K
   try simp only [Act.put, sZa, sZb, sZc]
   refine tk 7 59 ?_ (by kernel_rfl) (fun _ _ _ h => h) ?_ hHeld ?_
   rotate_left
   ·(intro o ho; simp only [gZa, gZb, gZc, gZd] at ho; subst ho; refine Or.inl ⟨by rfl, ?_⟩; intro w hSw; (try dsimp only at hSw); go_simp; try with_reducible rfl)
   try simp only [Act.put, sZa, sZb, sZc]
   refine wpAnyH_done (by kernel_rfl) ?_ _
   have HZ := hid (HB1.out.trans (hB.mono HB1.out.size))
   have HNX2 : Hid (mP l k0 (j + 1) = m1 + 4) := HNX
   clear hHeld hB b2 c0 c1 c2 c3 c4 HCC HCS HNX
   go_wp2_with fail
   go_roundw
   case rel => exact ⟨j + 1, m1 + 4, hlt, by go_num, by go_num, HNX2, HZ⟩
   case measure => simp [intOf]; omega
  ·obtain rfl : j = l.length := by omega
   go_wp2_with fail
   go_ret
   exact ⟨by rw [HM.out]; rfl, HB.out⟩
structure SOw (w : World) (lo hi : Nat) (a x : Option Addr) (d : Nat) (S : Sx) : Prop where
 lf : LSeg w a S.l
 rn : RSeg w x S.n S.R S.F S.T
 lv : S.l.length = 0 ∨ ∃ b P Q G, a = some ⟨b, 0, none⟩ ∧ LWy lo hi b S.l P G ∧ ∀ k0, LIn w w lo hi b S.l P Q G k0 0 0
 ro : S.n = 0 ∨ ∃ g ys, x = some ⟨g, 0, none⟩ ∧ g < hi ∧ w.ownsRow lo 94 3 (.slice (some ⟨g, 0, none⟩) S.n d) S.n ys
 hl : lo ≤ hi ∧ hi ≤ w.heap.size
theorem LIn.zero {w w' : World} {lo hi b : Nat} {l : List Lf} {P : Nat → Option Addr} {Q G : Nat → Nat} {k0 : Nat} (hw : LWy lo hi b l P G) (h : LIn w w lo hi b l P Q G k0 0 0) (hq : ∀ q, lo ≤ q → q < hi → w'.heap[q]? = w.heap[q]?) : LIn w' w' lo hi b l P Q G k0 0 0 := by
 obtain ⟨C, hC⟩ := h.wr
 have eb := hq b hw.b1 hw.b2
 refine ⟨Btw.refl _ _ _, fun _ _ _ => rfl, ⟨C, hC.same eb⟩, fun i hi => (World.cell?_of_block (a := ⟨b, _, none⟩) eb).trans (h.pth i hi), fun i h1 h2 h3 => ?_, fun i h1 => by omega, fun i h1 => by omega⟩
 obtain ⟨cur, k1, k2⟩ := h.todo i h1 h2 h3
 have hg := hw.g1 i h2 h3
 exact ⟨cur, (hq _ hg.2.2.1 hg.2.2.2).trans k1, k2⟩
theorem markLeaves0 (a : Option Addr) (c k0 : Nat) (w : World) : Calls Tryz.prog 33 #[.slice a 0 c, .int .i64 (k0 : Int)] w fun e w' => e = .returned (.int .i64 (k0 : Int)) ∧ w' = w := by
 go_enter Tryz.func33, Tryz.ntmps33
 go_wp2_with fail
 refine wp_loop_rounds 1 ?_; rw [rounds_succ]; go_wp2_with fail
 go_ret
 exact ⟨rfl, rfl⟩
theorem SOw.markL {w : World} {lo hi : Nat} {a x : Option Addr} {c d : Nat} {S : Sx} (h : SOw w lo hi a x d S) (hm : S.Sm) (k0 : Nat) (hk : k0 ≤ 4000000000000) :
  Calls Tryz.prog 33 #[.slice a S.l.length c, .int .i64 (k0 : Int)] w fun e w' => e = .returned (.int .i64 (mP S.l k0 S.l.length : Int)) ∧ Btw lo hi w w' ∧ (∀ (q : Nat) (cur : Array Value), w.heap[q]? = some (Obj.cells cur 94 (0, 0)) → w'.heap[q]? = w.heap[q]?) ∧ (∀ w2 : World, w'.heap.size ≤ w2.heap.size → (∀ q, lo ≤ q → q < hi → q < w'.heap.size → (∀ cur, w.heap[q]? ≠ some (Obj.cells cur 94 (0, 0))) → w2.heap[q]? = w'.heap[q]?) → LSeg w2 a (mkL S.l k0)) := by
 rcases h.lv with h0 | ⟨b, P, Q, G, rfl, hw, hI⟩
 ·rw [h0]
  refine (markLeaves0 a c k0 w).mono ?_
  rintro e w' ⟨rfl, rfl⟩
  exact ⟨rfl, Btw.refl _ _ _, fun _ _ _ => rfl, fun w2 _ _ => .inl (by rw [mkL_len, h0])⟩
 ·refine (markLeavesK lo hi b c k0 S.l P Q G w hk hm.l1 hm.p1 hw (hI k0)).mono ?_
  rintro e w' ⟨rfl, hL⟩
  exact ⟨rfl, hL.low, hL.run, fun w2 h1 h2 => hL.seg hw h1 h2⟩
structure SMk (w : World) (a x : Option Addr) (S : Sx) (k0 : Nat) : Prop where
 lf : LSeg w a (mkL S.l k0)
 rn : RSeg w x S.n (mk3 (mP S.l k0 S.l.length) 0) (mk3 (mP S.l k0 S.l.length) 1) (mk3 (mP S.l k0 S.l.length) 2)
def SMkN (w : World) (lo hi : Nat) (a x : Option Addr) (S : Sx) (k0 : Nat) : Prop := ∀ w2 : World, w.heap.size ≤ w2.heap.size → (∀ q, lo ≤ q → q < hi → w2.heap[q]? = w.heap[q]?) → SMk w2 a x S k0
theorem SMkN.at {w : World} {lo hi : Nat} {a x : Option Addr} {S : Sx} {k0 : Nat} (h : SMkN w lo hi a x S k0) : SMk w a x S k0 := h w (Nat.le_refl _) (fun _ _ _ => rfl)
theorem SMkN.move {w w1 : World} {lo hi : Nat} {a x : Option Addr} {S : Sx} {k0 : Nat} (h : SMkN w lo hi a x S k0) (hs : w.heap.size ≤ w1.heap.size) (hq : ∀ q, lo ≤ q → q < hi → w1.heap[q]? = w.heap[q]?) : SMkN w1 lo hi a x S k0 :=
 fun w2 h1 h2 => h w2 (Nat.le_trans hs h1) (fun q h3 h4 => (h2 q h3 h4).trans (hq q h3 h4))
theorem SMk.below {w w' : World} {a x : Option Addr} {S : Sx} {k0 : Nat} (h : SMk w a x S k0) (hb : Below w.heap.size w w') : SMk w' a x S k0 := ⟨h.lf.below hb, h.rn.below hb⟩
def mE (S : Sx) (k0 : Nat) : Nat := mP S.l k0 S.l.length + 3 * S.n
theorem mE_le {S : Sx} (hm : S.Sm) (k0 : Nat) : mE S k0 ≤ k0 + 2000000000000 ∧ mP S.l k0 S.l.length ≤ k0 + 1500000000000 := by
 have h1 := mP_le (k0 := k0) hm.p1 S.l.length
 have h2 := hm.l1
 have h3 := hm.n1
 unfold mE; omega
theorem markStateO {lo hi : Nat} {a x : Option Addr} {c d : Nat} {S : Sx} {w : World} (h : SOw w lo hi a x d S) (hm : S.Sm) (k0 : Nat) (hk : k0 ≤ 4000000000000) :
  Calls Tryz.prog 14 #[.agg #[.slice a S.l.length c, .slice x S.n d], .int .i64 (k0 : Int)] w fun e w' => e = .returned (.int .i64 (mE S k0 : Int)) ∧ Btw lo hi w w' ∧ SMkN w' lo hi a x S k0 := by
 obtain ⟨W, hW⟩ : ∃ W, w.alloc (.cells #[.slice a S.l.length c, .slice x S.n d] 36) = W := ⟨_, rfl⟩
 have b0 : Below w.heap.size w W := by rw [← hW]; exact (Below.refl _ _).alloc (Nat.le_refl _) _
 have B0 : Bx2 W w.heap.size (.slice a S.l.length c) (.slice x S.n d) := by rw [← hW]; exact Bx2.made _ _ _ _
 have hW2 : SOw W lo hi a x d S := ⟨h.lf.below b0, h.rn.below b0, h.lv.imp id (fun ⟨b, P, Q, G, e, hw, hI⟩ => ⟨b, P, Q, G, e, hw, fun k0 => (hI k0).zero hw (fun q h1 h2 => b0.block q (Nat.lt_of_lt_of_le h2 h.hl.2))⟩), h.ro.imp id (fun ⟨g, ys, e, hg, ho⟩ => ⟨g, ys, e, hg, owns_below ho b0 (fun k hk => by simp [Value.ownBlock] at hk; subst hk; exact Nat.lt_of_lt_of_le hg h.hl.2)⟩), h.hl.1, Nat.le_trans h.hl.2 b0.size⟩
 have HM := hid (hW2.markL (c := c) hm k0 hk)
 have HS := hid hW2
 have k0' := B0.c0
 have k1' := B0.c1
 have HB := hid (Btw.below (lo := lo) (hi := hi) b0)
 have hle := mE_le hm k0
 have HX := hid B0
 have HH := hid h.hl
 have HEE : Hid (mE S k0 = mP S.l k0 S.l.length + 3 * S.n) := hid rfl
 obtain ⟨E, hE⟩ : ∃ E, mE S k0 = E := ⟨_, rfl⟩
 rw [hE] at HEE hle ⊢
 clear h b0 B0 hW2 hE
 go_enter Tryz.func14, Tryz.ntmps14
 go_wp2_with fail
 try rw [hW]
 clear hW
 refine HM.out.mono ?_
 rintro e w1 ⟨rfl, t1, hr1, hs1⟩
 have e1 := t1.block w.heap.size HX.out.lt (.inr HH.out.2)
 have r1 := (World.cell?_of_block (a := ⟨w.heap.size, 1, none⟩) e1).trans HX.out.c1
 have HT1 := hid t1
 have HR1 := hid hr1
 have HS1 := hid hs1
 obtain ⟨m, hm'⟩ : ∃ m, mP S.l k0 S.l.length = m := ⟨_, rfl⟩
 have HMM := hid hm'
 rw [hm'] at HEE hle ⊢
 have HMC : Hid (Calls Tryz.prog 34 #[.agg #[.slice x S.n d], .int .i64 (m : Int)] w1 fun e w' => e = .returned (.int .i64 (E : Int)) ∧ Btw lo hi w1 w' ∧ ∀ w2 : World, w'.heap.size ≤ w2.heap.size → (∀ q, lo ≤ q → q < hi → w2.heap[q]? = w'.heap[q]?) → RSeg w2 x S.n (mk3 m 0) (mk3 m 1) (mk3 m 2) ∧ LSeg w2 a (mkL S.l k0)) := hid (by
  rcases HS.out.ro with h0 | ⟨g, ys, rfl, hg, ho⟩
  ·rw [h0] at HEE ⊢
   refine (markContext0 x d m w1 (by omega)).mono ?_
   rintro e w' ⟨rfl, b'⟩
   refine ⟨by rw [HEE.out]; simp, Btw.below b', fun w2 g1 g2 => ⟨.inl rfl, hs1 w2 (Nat.le_trans b'.size g1) (fun q h1 h2 h3 _ => (g2 q h1 h2).trans (b'.block q h3))⟩⟩
  ·have hb := ho.2
   have hgg := ho.lt g rfl
   have ho1 : w1.ownsRow lo 94 3 (.slice (some ⟨g, 0, none⟩) S.n d) S.n ys := by
    obtain ⟨q1, q2⟩ := ho
    refine ⟨q1, ?_⟩
    rcases q2 with ⟨q2, _⟩ | ⟨g', cap, cur, e, hbg, hbb, r⟩
    ·cases q2
    ·exact .inr ⟨g', cap, cur, e, hbg, (hr1 g' cur hbb).trans hbb, r⟩
   have hrun : ∃ cur, W.heap[g]? = some (Obj.cells cur 94 (0, 0)) := by
    rcases hb with ⟨q2, _⟩ | ⟨g', cap, cur, e, hbg, hbb, r⟩
    ·cases q2
    ·injection e with e _ _; injection e with e; injection e with e _ _; subst e; exact ⟨cur, hbb⟩
   refine (markContext lo g S.n d m ys w1 (by have := t1.size; have := HS.out.hl; omega) (by omega) (by have := hm.n1; omega) ho1).mono ?_
   rintro e w' ⟨rfl, bl, rs, z', hq⟩
   refine ⟨by rw [HEE.out], ⟨bl.os, bl.tape, bl.output, z', fun q h1 h2 => hq q h1 (by omega)⟩, fun w2 g1 g2 => ⟨rs.same g1 (fun y hy => by have := Option.some.inj hy; rw [← this]; exact g2 g hgg.1 hg), hs1 w2 (Nat.le_trans z' g1) (fun q h1 h2 h3 h4 => (g2 q h1 h2).trans (hq q h3 (fun e => ?_)))⟩⟩
   rw [e] at h4
   obtain ⟨cur, hc⟩ := hrun
   exact h4 cur hc)
 clear t1 hr1 hs1 hm' HM k0' k1' e1 HX
 go_wp2_with fail
 refine HMC.out.mono ?_
 rintro e w2 ⟨rfl, t2, rsls⟩
 have HB2 := hid ((HB.out.trans HT1.out).trans t2)
 have HK : Hid (SMkN w2 lo hi a x S k0) := hid (fun w3 g1 g2 => ⟨(rsls w3 g1 g2).2, by rw [HMM.out]; exact (rsls w3 g1 g2).1⟩)
 clear t2 rsls HMC r1
 go_wp2_with fail
 go_ret
 exact ⟨rfl, HB2.out, HK.out⟩
theorem heldStateO {a x : Option Addr} {c d : Nat} {S : Sx} {w : World} (hm : S.Sm) (k0 : Nat) (hk : k0 ≤ 4000000000000) (h : SMk w a x S k0) :
  Calls Tryz.prog 16 #[.agg #[.slice a S.l.length c, .slice x S.n d], .int .i64 (k0 : Int)] w fun e w' => e = .returned (.int .i64 (mE S k0 : Int)) ∧ Below w.heap.size w w' := by
 obtain ⟨W, hW⟩ : ∃ W, w.alloc (.cells #[.slice a S.l.length c, .slice x S.n d] 36) = W := ⟨_, rfl⟩
 have b0 : Below w.heap.size w W := by rw [← hW]; exact (Below.refl _ _).alloc (Nat.le_refl _) _
 have B0 : Bx2 W w.heap.size (.slice a S.l.length c) (.slice x S.n d) := by rw [← hW]; exact Bx2.made _ _ _ _
 have hW2 := h.below b0
 have HM := hid (heldLeavesK a c k0 S.l W hk hm.l1 hm.p1 hW2.lf)
 have HRN := hid hW2.rn
 have k0' := B0.c0
 have k1' := B0.c1
 have HB := hid b0
 have hle := mE_le hm k0
 have hn1 := hm.n1
 have HX := hid B0
 have HEE : Hid (mE S k0 = mP S.l k0 S.l.length + 3 * S.n) := hid rfl
 obtain ⟨E, hE⟩ : ∃ E, mE S k0 = E := ⟨_, rfl⟩
 obtain ⟨m, hm'⟩ : ∃ m, mP S.l k0 S.l.length = m := ⟨_, rfl⟩
 rw [hE, hm'] at HEE
 rw [hE] at hle ⊢
 rw [hm'] at hle HM HRN
 clear h b0 B0 hW2 hE hm'
 have dm : decide ((m : Int) < 0) = false := by simp
 have dE : decide ((E : Int) < 0) = false := by simp
 go_enter Tryz.func16, Tryz.ntmps16
 go_wp2_with fail
 try rw [hW]
 clear hW
 refine HM.out.mono ?_
 rintro e w1 ⟨rfl, b1⟩
 have r1 := (HX.out.below b1 HX.out.lt).c1
 have HC := hid (heldContext x S.n d m w1 (by omega) (by omega) (HRN.out.below b1))
 rw [← HEE.out] at HC
 have HB1 := hid (keepS HB.out b1)
 clear b1 HM k0' k1' HX HRN
 go_wp2_with fail
 refine HC.out.mono ?_
 rintro e w2 ⟨rfl, b2⟩
 have HB2 := hid (keepS HB1.out b2)
 clear b2 HC r1
 go_wp2_with fail
 go_ret
 exact ⟨rfl, HB2.out⟩
end Go.Proofs.YtcbcabhjododoaaGreat
namespace Go.Proofs.YtcbcabhjododoaaGreat
open Go.ChangeShapes Go.WideShapes Go.ChangeAt Go.RowKit Go.Maps
theorem zeroNode (w : World) : (zeroValue 64).run Tryz.prog w = .ok (nodV none) w := by kernel_rfl
theorem zeroMark (w : World) : (zeroValue 80).run Tryz.prog w = .ok (mrkV none) w := by kernel_rfl
structure PB (w : World) (h : Nat) (x : Nat × Nat) (r q : Int) (s : ByteArray) : Prop where
 n : Bx2 w h (.map (some x.1)) (.map (some x.2))
 d : Bx2 w (h + 1) (.int .i64 r) (.int .i64 q)
 m : Bx1 w (h + 2) (.string s)
theorem PB.below {w w' : World} {h : Nat} {x : Nat × Nat} {r q : Int} {s : ByteArray} (p : PB w h x r q s) (hb : Below w.heap.size w w') : PB w' h x r q s := ⟨p.n.below hb p.n.lt, p.d.below hb p.d.lt, p.m.below hb p.m.lt⟩
theorem PB.gt {w w' : World} {B h : Nat} {x : Nat × Nat} {r q : Int} {s : ByteArray} (p : PB w h x r q s) (hb : Gt B w w') : PB w' h x r q s := ⟨p.n.gt hb, p.d.gt hb, p.m.gt hb⟩
theorem PB.set {w : World} {h : Nat} {x : Nat × Nat} {r q : Int} {s : ByteArray} (p : PB w h x r q s) (y : Nat × Nat) : PB ((w.setCell ⟨h, 0, none⟩ (.map (some y.1))).setCell ⟨h, 1, none⟩ (.map (some y.2))) h y r q s :=
 ⟨p.n.set _ _, (p.d.setAt _ _ (by simp)).setAt _ _ (by simp), (p.m.setAt _ _ (by simp)).setAt _ _ (by simp)⟩
theorem PB.setAt {w : World} {h : Nat} {x : Nat × Nat} {r q : Int} {s : ByteArray} (p : PB w h x r q s) (a : Addr) (u : Value) (ha : h + 2 < a.block) : PB (w.setCell a u) h x r q s :=
 ⟨p.n.setAt _ _ (by omega), p.d.setAt _ _ (by omega), p.m.setAt _ _ (by omega)⟩
theorem putC (p : List ByteArray) (a : Option Addr) (cp : Nat) (k : Int) (r q : Int) (s : ByteArray) (B c : Nat) (N : List Ky → Option (Nat × Nat)) (M : List Ky → Dt → Option ByteArray) (x0 : Nat × Nat) (w : World)
  (hp : p.length ≤ 1048576) (hs : ∀ i, (gS p i).size ≤ 1048576) (hk : (Lit.int .i64 k).wf = true) (hr : (Lit.int .i64 r).wf = true) (hq : (Lit.int .i64 q).wf = true) (hc : c ≤ 1073741824) (hB : B ≤ w.heap.size) (h : SSeg w a p) (hT : Tre w B N M c) (h0 : N [] = some x0) :
  Calls Tryz.prog 67 #[.agg #[.map (some x0.1), .map (some x0.2)], .slice a p.length cp, .int .i64 k, .agg #[.int .i64 r, .int .i64 q], .agg #[.string s]] w fun e w' => e = .returned (.tuple #[]) ∧ Gt B w w' ∧
   ∃ N', Tre w' B N' (updM M (wayOf p k) (r, q) s) (c + p.length + 1) ∧ N' [] = some x0 ∧ ∀ z, (N' z).isSome = true ↔ (N z).isSome = true ∨ z <+: wayOf p k := by
 obtain ⟨W, hW⟩ : ∃ W, ((w.alloc (.cells #[.map (some x0.1), .map (some x0.2)] 64)).alloc (.cells #[.int .i64 r, .int .i64 q] 55)).alloc (.cells #[.string s] 80) = W := ⟨_, rfl⟩
 have b0 : Below w.heap.size w W := by rw [← hW]; exact (((Below.refl _ _).alloc (Nat.le_refl _) _).alloc (by simp) _).alloc (by simp; omega) _
 have P0 : PB W w.heap.size x0 r q s := by
  have d1 := Bx2.made (w.alloc (.cells #[.map (some x0.1), .map (some x0.2)] 64)) (.int .i64 r) (.int .i64 q) 55
  have m1 := Bx1.made ((w.alloc (.cells #[.map (some x0.1), .map (some x0.2)] 64)).alloc (.cells #[.int .i64 r, .int .i64 q] 55)) (.string s) 80
  rw [← hW]
  exact ⟨((Bx2.made w _ _ _).allocs _).allocs _, by simpa using d1.allocs _, by simpa using m1⟩
 have HS := hid h
 have HP0 := hid P0
 have HT0 := hid (hT.below b0)
 have HG0 := hid (Gt.of_below (B := B) b0)
 have H0 := hid h0
 have HB := hid hB
 have Hs := hid hs
 clear h hT h0 b0 P0 hs hB
 go_enter Tryz.func67, Tryz.ntmps67
 go_wp2_with fail
 try rw [hW]
 clear hW
 go_loopw [16] (fun i wr => ∃ j : Nat, j ≤ p.length ∧ i = .int .i64 j ∧ Hid (Gt B w wr) ∧ (∃ Nk x, Hid (Tre wr B Nk M (c + j)) ∧ Hid (Nk [] = some x0) ∧ Hid (Nk ((wayOf p k).take j) = some x) ∧ Hid (∀ z, (Nk z).isSome = true ↔ (N z).isSome = true ∨ z <+: (wayOf p k).take j) ∧ Hid (PB wr w.heap.size x r q s))) (fun i _ => p.length - (intOf i).toNat)
 case atStart =>
  refine ⟨0, Nat.zero_le _, rfl, HG0, N, x0, HT0, H0, hid (by simpa using H0.out), hid (fun z => ?_), HP0⟩
  simp only [List.take_zero, List.prefix_nil]
  exact ⟨fun h => .inl h, fun h => h.elim id (fun e => by rw [e, H0.out]; rfl)⟩
 case round =>
  clear HT0 HG0 HP0
  obtain ⟨j, hj, rfl, HG, Nk, x, HT, HN0, HNk, HI, HP⟩ := hrel
  by_cases hlt : j < p.length
  ·have i1 : (0 : Int) ≤ (j : Int) := Int.natCast_nonneg _
   have i2 : (j : Int) < (p.length : Int) := by omega
   have HKW := hid (keyOnWay p a cp k j wr hp hlt (HS.out.gt HG.out))
   obtain ⟨nm, kd, hkey⟩ : ∃ nm kd, onWay p k j = (nm, kd) := ⟨_, _, rfl⟩
   have HKey := hid hkey
   rw [hkey] at HKW
   obtain ⟨kl, hkl⟩ : ∃ kl, keyOf Tryz.prog 140 (keyV (nm, kd)) = some kl := by
    unfold onWay at hkey
    have e1 := (Prod.mk.inj hkey).1
    have e2 := (Prod.mk.inj hkey).2
    refine keyKey ?_ ?_
    ·rw [← e1]; have := Hs.out j; unfold maxLen; omega
    ·rw [← e2]; split
     ·decide
     ·exact hk
   have HKL := hid hkl
   clear hkey hkl
   dsimp only [keyV] at HKW
   go_wp2_with fail
   refine HKW.out.mono ?_
   rintro e w1 ⟨rfl, b1⟩
   obtain ⟨w2, hw2⟩ : ∃ w2, w1.alloc (.cells #[.string nm, .int .i64 kd] 140) = w2 := ⟨_, rfl⟩
   have b2 : Below wr.heap.size wr w2 := by rw [← hw2]; exact b1.alloc b1.size _
   have HK2 : Bx2 w2 w1.heap.size (.string nm) (.int .i64 kd) := by rw [← hw2]; exact Bx2.made _ _ _ _
   have HP2 := HP.out.below b2
   have HT2 := hid (HT.out.below b2)
   have HG2 := hid (HG.out.keep b2)
   have e0 := HP2.n.c0
   have e1 := HK2.c0
   have e2 := HK2.c1
   have HPk := hid HP2
   have HKB := hid HK2
   have HPz : Hid (w.heap.size + 2 < w2.heap.size) := hid HP2.m.lt
   have hlk := (HT2.out.kids _ x HNk.out).look_ok (mt := 61) keyKeyed Tryz.underlying61 (zeroNode w2) HKL.out
   clear HK2 HP2 b1 b2 HKW HT HG HP
   dsimp only [keyV] at hlk
   have hst : (wayOf p k).take (j + 1) = (wayOf p k).take j ++ [(nm, kd)] := by rw [wayOf_take hlt]; have := HKey.out; unfold onWay at this; rw [this]
   have HST := hid hst
   clear hst
   cases hNy : Nk ((wayOf p k).take j ++ [(nm, kd)]) with
   | some y =>
    rw [hNy] at hlk
    dsimp only [nodV, Option.isSome] at hlk
    have HNy := hid hNy
    clear hNy
    obtain ⟨w3, hw3⟩ : ∃ w3, w2.alloc (.cells #[.map (some y.1), .map (some y.2)] 64) = w3 := ⟨_, rfl⟩
    have b3 : Below w2.heap.size w2 w3 := by rw [← hw3]; exact (Below.refl _ _).alloc (Nat.le_refl _) _
    have KB : Bx2 w3 w2.heap.size (.map (some y.1)) (.map (some y.2)) := by rw [← hw3]; exact Bx2.made _ _ _ _
    have g0 := KB.c0
    have g1 := KB.c1
    have P3 := HPk.out.below b3
    have n0 := P3.n.c0
    have n1 := P3.n.c1
    have f0 := P3.n.f 0
    have f1 := P3.n.f 1
    have HT3 := hid ((HT2.out.below b3).set (q := ⟨w.heap.size, 0, none⟩) (.map (some y.1)) n0)
    have HT4 := hid (HT3.out.set (q := ⟨w.heap.size, 1, none⟩) (.map (some y.2)) ((P3.n.set0 _).c1))
    have HG3 := hid (((HG2.out.keep b3).set ⟨w.heap.size, 0, none⟩ (.map (some y.1)) (Nat.le_refl _)).set ⟨w.heap.size, 1, none⟩ (.map (some y.2)) (Nat.le_refl _))
    have HP4 := hid (P3.set y)
    clear b3 KB P3 HT3
    go_wp2_with fail
    go_roundw
    case rel =>
     refine ⟨j + 1, hlt, by go_num, HG3, Nk, y, hid (HT4.out.mono (by omega)), HN0, hid (by rw [HST.out]; exact HNy.out), hid (fun z => ?_), HP4⟩
     rw [HI.out z, take_pre HST.out]
     constructor
     ·rintro (e | e)
      ·exact .inl e
      ·exact .inr (.inl e)
     ·rintro (e | e | e)
      ·exact .inl e
      ·exact .inr e
      ·exact (HI.out z).1 (by rw [e, HNy.out]; rfl)
    case measure => simp [intOf]; omega
   | none =>
    rw [hNy] at hlk
    dsimp only [nodV, Option.isSome] at hlk
    have HNy := hid hNy
    clear hNy
    obtain ⟨w3, hw3⟩ : ∃ w3, w2.alloc (.cells #[.map none, .map none] 64) = w3 := ⟨_, rfl⟩
    have b3 : Below w2.heap.size w2 w3 := by rw [← hw3]; exact (Below.refl _ _).alloc (Nat.le_refl _) _
    have KB : Bx2 w3 w2.heap.size (.map none) (.map none) := by rw [← hw3]; exact Bx2.made _ _ _ _
    have HKB3 := hid KB
    have HKY3 := hid (HKB.out.below b3 HKB.out.lt)
    have HP3 := hid (HPk.out.below b3)
    have HT3 := hid (HT2.out.below b3)
    have HG3 := hid (HG2.out.keep b3)
    have HZ3 := hid b3.size
    have HW3 := hid hw3
    clear b3 KB HPk HT2 HG2 HKB hw3
    go_wp2_with fail
    rw [HW3.out]
    refine (newNode w3).mono ?_
    rintro e w4 ⟨s1, s2, rfl, hss, hs1, hs2, m1, m2, b4⟩
    have KB4 := HKB3.out.below b4 HKB3.out.lt
    have g0 := KB4.c0
    have g1 := KB4.c1
    have h0 := KB4.f 0
    have h1 := KB4.f 1
    obtain ⟨w5, hw5⟩ : ∃ w5, (w4.setCell ⟨w2.heap.size, 0, none⟩ (.map (some s1))).setCell ⟨w2.heap.size, 1, none⟩ (.map (some s2)) = w5 := ⟨_, rfl⟩
    have zw1 : w1.heap.size < w3.heap.size := HKY3.out.lt
    have zw0 := HP3.out.m.lt
    have hne1 : w2.heap.size ≠ w1.heap.size := by rw [← hw2]; simp
    have hP5 : PB w5 w.heap.size x r q s ∧ w.heap.size + 2 < w2.heap.size := by
     have hz : w.heap.size + 2 < w2.heap.size := HPz.out
     rw [← hw5]
     exact ⟨((HP3.out.below b4).setAt _ _ hz).setAt _ _ hz, hz⟩
    have K5 : Bx2 w5 w2.heap.size (.map (some s1)) (.map (some s2)) := by rw [← hw5]; exact KB4.set _ _
    have Y5 : Bx2 w5 w1.heap.size (.string nm) (.int .i64 kd) := by rw [← hw5]; exact ((HKY3.out.below b4 HKY3.out.lt).setAt _ _ hne1).setAt _ _ hne1
    have T5 : Tre w5 B Nk M (c + j) := by rw [← hw5]; exact ((HT3.out.below b4).set _ g0).set _ (KB4.set0 _).c1
    have G5 : Gt B w w5 := by rw [← hw5]; exact ((HG3.out.keep b4).set _ _ (by show w.heap.size ≤ w2.heap.size; omega)).set _ _ (by show w.heap.size ≤ w2.heap.size; omega)
    have hn1 : s1 ≠ w2.heap.size := by intro e; have := HKB3.out.lt; omega
    have hn2 : s2 ≠ w2.heap.size := by intro e; have := HKB3.out.lt; omega
    have M1 : MapF w5 140 (α := Ky) keyV nodV s1 0 (fun _ => none) := by rw [← hw5]; exact (m1.same (Below.heap_setCell _ _ _ _ hn1)).same (Below.heap_setCell _ _ _ _ hn1)
    have M2 : MapF w5 55 (α := Dt) dtV mrkV s2 0 (fun _ => none) := by rw [← hw5]; exact (m2.same (Below.heap_setCell _ _ _ _ hn2)).same (Below.heap_setCell _ _ _ _ hn2)
    have c1 := hP5.1.n.c0
    have c2 := Y5.c0
    have c3 := Y5.c1
    have c4 := K5.c0
    have c5 := K5.c1
    have HU : Hid (∀ w6, MapF w6 140 keyV nodV x.1 (c + j + 1) (updF (fun z => Nk ((wayOf p k).take j ++ [z])) (nm, kd) (some (s1, s2))) → w5.grownBy w6 (some x.1) → Tre w6 B (updF Nk ((wayOf p k).take j ++ [(nm, kd)]) (some (s1, s2))) M (c + j + 1) ∧ Gt B w w6 ∧ PB w6 w.heap.size x r q s ∧ Bx2 w6 w2.heap.size (.map (some s1)) (.map (some s2))) := hid (fun w6 hu hg => by
     have hlo := (T5.lo _ x HNk.out).1
     have hg6 := Gt.grown hg hlo (T5.kids _ x HNk.out).obj
     refine ⟨T5.add HNk.out HNy.out M1 M2 hss (fun q z hz => ?_) ⟨by have := HB.out; omega, by have := HB.out; omega⟩ hu hg, G5.trans hg6, hP5.1.gt hg6, K5.gt hg6⟩
     have := HT3.out.lt hz
     exact ⟨by omega, by omega, by omega, by omega⟩)
    have HMF := hid (T5.kids _ x HNk.out)
    clear hP5 K5 Y5 T5 G5 M1 M2 m1 m2 b4 KB4 HKB3 HKY3 HP3 HT3 HG3
    go_wp2_with (refine wpList_mapUpdate_F _ rfl _ _ _ 61 rfl 140 64 keyKeyed keyV (fun _ _ => keyV_inj) Tryz.underlying61 nodV x.1 (c + j) (fun z => Nk ((wayOf p k).take j ++ [z])) rfl HMF.out (by unfold maxLen; omega) (nm, kd) (s1, s2) kl rfl rfl HKL.out ?_; intro w6 hu hg; obtain ⟨T6, G6, P6, K6⟩ := HU.out w6 hu hg; have HT6 := hid T6; have HG6 := hid G6; have HP6 := hid P6; have t0 := P6.n.c0; have t1 := P6.n.c1; have t2 := P6.n.f 0; have t3 := P6.n.f 1; have t4 := K6.c0; have t5 := K6.c1; clear hu hg T6 G6 P6 K6)
    go_roundw
    case rel =>
     have T7 := (HT6.out.set (q := ⟨w.heap.size, 0, none⟩) (.map (some s1)) t0).set (q := ⟨w.heap.size, 1, none⟩) (.map (some s2)) (HP6.out.n.set0 _).c1
     refine ⟨j + 1, hlt, by go_num, hid ((HG6.out.set _ _ (Nat.le_refl _)).set _ _ (Nat.le_refl _)), updF Nk ((wayOf p k).take j ++ [(nm, kd)]) (some (s1, s2)), (s1, s2), hid T7, hid ?_, hid ?_, hid (fun z => ?_), hid (HP6.out.set (s1, s2))⟩
     ·rw [updF_other _ _ (by simp)]; exact HN0.out
     ·rw [HST.out, updF_same]
     ·rw [take_pre HST.out]
      by_cases ez : z = (wayOf p k).take j ++ [(nm, kd)]
      ·rw [ez, updF_same]
       exact ⟨fun _ => .inr (.inr rfl), fun _ => rfl⟩
      ·rw [updF_other _ _ ez, HI.out z]
       constructor
       ·rintro (h | h)
        ·exact .inl h
        ·exact .inr (.inl h)
       ·rintro (h | h | h)
        ·exact .inl h
        ·exact .inr h
        ·exact absurd h ez
    case measure => simp [intOf]; omega
  ·obtain rfl : j = p.length := by omega
   have htk : (wayOf p k).take p.length = wayOf p k := List.take_of_length_le (by rw [wayOf_len]; exact Nat.le_refl _)
   rw [htk] at HNk HI
   obtain ⟨kl, hkl⟩ : ∃ kl, keyOf Tryz.prog 55 (dtV (r, q)) = some kl := dotKey hr hq
   have HKL := hid hkl
   have c0 := HP.out.n.c1
   have c1 := HP.out.d.c0
   have c2 := HP.out.d.c1
   have c3 := HP.out.m.c0
   have HMF := hid (HT.out.marks _ x HNk.out)
   have HU : Hid (∀ w6, MapF w6 55 dtV mrkV x.2 (c + p.length + 1) (updF (M (wayOf p k)) (r, q) (some s)) → wr.grownBy w6 (some x.2) → Tre w6 B Nk (updM M (wayOf p k) (r, q) s) (c + p.length + 1) ∧ Gt B w w6) := hid (fun w6 hu hg =>
     ⟨HT.out.mark HNk.out hu hg, HG.out.trans (Gt.grown hg (HT.out.lo _ x HNk.out).2 (HT.out.marks _ x HNk.out).obj)⟩)
   clear htk hkl HT HG HP
   go_wp2_with (refine wpList_mapUpdate_F _ rfl _ _ _ 62 rfl 55 80 dotKeyed dtV (fun _ _ => dtV_inj) Tryz.underlying62 mrkV x.2 (c + p.length) (M (wayOf p k)) rfl HMF.out (by unfold maxLen; omega) (r, q) s kl rfl rfl HKL.out ?_; intro w6 hu hg; obtain ⟨T6, G6⟩ := HU.out w6 hu hg; have HT6 := hid T6; have HG6 := hid G6; clear hu hg T6 G6)
   go_end0
   exact ⟨rfl, HG6.out, Nk, HT6.out, HN0.out, HI.out⟩
end Go.Proofs.YtcbcabhjododoaaGreat
