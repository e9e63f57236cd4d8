import Derived.Test.YtcbcabhjododoaaGreatFg14
set_option linter.unusedVariables false
set_option linter.unusedSimpArgs false
set_option maxRecDepth 100000
set_option maxHeartbeats 40000000
namespace Go.Proofs.YtcbcabhjododoaaGreat
open Go.ChangeShapes Go.WideShapes Go.ChangeAt Go.RowKit Go.Maps
structure Bx3 (w : World) (b : Nat) (v0 v1 v2 : Value) : Prop where
 c0 : w.cell? ⟨b, 0, none⟩ = some v0
 c1 : w.cell? ⟨b, 1, none⟩ = some v1
 c2 : w.cell? ⟨b, 2, none⟩ = some v2
 f : ∀ i, w.frozen? ⟨b, i, none⟩ = false
 lt : b < w.heap.size
theorem Bx3.below {w w' : World} {B b : Nat} {v0 v1 v2 : Value} (h : Bx3 w b v0 v1 v2) (hb : Below B w w') (hB : b < B) : Bx3 w' b v0 v1 v2 :=
 ⟨(hb.cell (p := ⟨b, 0, none⟩) hB).trans h.c0, (hb.cell (p := ⟨b, 1, none⟩) hB).trans h.c1, (hb.cell (p := ⟨b, 2, none⟩) hB).trans h.c2, fun i => (hb.frozen (p := ⟨b, i, none⟩) hB).trans (h.f i), Nat.lt_of_lt_of_le h.lt hb.size⟩
theorem Bx3.gt {w w' : World} {B b : Nat} {v0 v1 v2 : Value} (h : Bx3 w b v0 v1 v2) (hg : Gt B w w') : Bx3 w' b v0 v1 v2 :=
 ⟨hg.cell h.c0, hg.cell h.c1, hg.cell h.c2, fun i => (hg.frozen (q := ⟨b, i, none⟩) h.c0 rfl).trans (h.f i), Nat.lt_of_lt_of_le h.lt hg.size⟩
theorem Bx3.made (w : World) (v0 v1 v2 : Value) (t : TypeId) : Bx3 (w.alloc (.cells #[v0, v1, v2] t)) w.heap.size v0 v1 v2 := ⟨by simp, by simp, by simp, fun i => by simp, by simp⟩
theorem Bx3.set0 {w : World} {b : Nat} {v0 v1 v2 : Value} (h : Bx3 w b v0 v1 v2) (u : Value) : Bx3 (w.setCell ⟨b, 0, none⟩ u) b u v1 v2 :=
 ⟨World.cell?_setCell_same _ _ _ h.c0, by simp [World.cell?_setCell_other, h.c1], by simp [World.cell?_setCell_other, h.c2], fun i => by rw [World.frozen?_setCell]; exact h.f i, by simp [World.setCell]; exact h.lt⟩
theorem Bx3.set1 {w : World} {b : Nat} {v0 v1 v2 : Value} (h : Bx3 w b v0 v1 v2) (u : Value) : Bx3 (w.setCell ⟨b, 1, none⟩ u) b v0 u v2 :=
 ⟨by simp [World.cell?_setCell_other, h.c0], World.cell?_setCell_same _ _ _ h.c1, by simp [World.cell?_setCell_other, h.c2], fun i => by rw [World.frozen?_setCell]; exact h.f i, by simp [World.setCell]; exact h.lt⟩
theorem Bx3.set2 {w : World} {b : Nat} {v0 v1 v2 : Value} (h : Bx3 w b v0 v1 v2) (u : Value) : Bx3 (w.setCell ⟨b, 2, none⟩ u) b v0 v1 u :=
 ⟨by simp [World.cell?_setCell_other, h.c0], by simp [World.cell?_setCell_other, h.c1], World.cell?_setCell_same _ _ _ h.c2, fun i => by rw [World.frozen?_setCell]; exact h.f i, by simp [World.setCell]; exact h.lt⟩
theorem Bx3.set {w : World} {b : Nat} {v0 v1 v2 : Value} (h : Bx3 w b v0 v1 v2) (u0 u1 u2 : Value) : Bx3 (((w.setCell ⟨b, 0, none⟩ u0).setCell ⟨b, 1, none⟩ u1).setCell ⟨b, 2, none⟩ u2) b u0 u1 u2 := ((h.set0 u0).set1 u1).set2 u2
theorem NkI.step {l : List Lf} {k : Nat} {N N' : List Ky → Option (Nat × Nat)} (h : NkI l k N) (h' : ∀ z, (N' z).isSome = true ↔ (N z).isSome = true ∨ z <+: Way (gL l k)) : NkI l (k + 1) N' := fun z => by
 rw [h' z, h z]
 constructor
 ·rintro ((e | ⟨j, hj, e⟩) | e)
  ·exact .inl e
  ·exact .inr ⟨j, by omega, e⟩
  ·exact .inr ⟨k, by omega, e⟩
 ·rintro (e | ⟨j, hj, e⟩)
  ·exact .inl (.inl e)
  ·by_cases ej : j = k
   ·subst ej; exact .inr e
   ·exact .inl (.inr ⟨j, by omega, e⟩)
theorem kd_wf (fl : Bool) : (Lit.int .i64 (kd fl)).wf = true := by cases fl <;> decide
theorem openStateNo (a : Option Addr) (c : Nat) (l : List Lf) (x : Option Addr) (n d : Nat) (R F T : Nat → Int) (w : World) (hn : l.length ≤ 1048576) (hp : LBd l) (hi : ∀ i, LfI (gL l i)) (hm : n ≤ 1048576) (h : LSeg w a l) (h' : RSeg w x n R F T) (hok : ¬ StOk R F T n l) :
  Calls Tryz.prog 54 #[.agg #[.slice a l.length c, .slice x n d]] w fun e w' => e = .returned (.tuple #[.agg #[.map none, .map none, .map none], .bool false]) ∧ Below w.heap.size w w' := by
 obtain ⟨W, hW⟩ : ∃ W, (w.alloc (.cells #[.slice a l.length c, .slice x n d] 36)).alloc (.cells #[.map none, .map none, .map none] 68) = W := ⟨_, rfl⟩
 have b0 : Below w.heap.size w W := by rw [← hW]; exact below2 _ _ _
 have B0 : Bx3 W (w.heap.size + 1) (.map none) (.map none) (.map none) := by rw [← hW]; simpa using Bx3.made (w.alloc (.cells #[.slice a l.length c, .slice x n d] 36)) (.map none) (.map none) (.map none) 68
 have k0 : W.cell? ⟨w.heap.size, 0, none⟩ = some (.slice a l.length c) := by rw [← hW]; simp
 have k1 : W.cell? ⟨w.heap.size, 1, none⟩ = some (.slice x n d) := by rw [← hW]; simp
 have HO := hid (openRunsC a c l x n d R F T W hn hp hi hm (h.below b0) (h'.below b0))
 have HB0 := hid b0
 have HBx := hid B0
 rw [yes_f hok] at HO
 clear h h' b0 B0
 go_enter Tryz.func54, Tryz.ntmps54
 go_wp2_with fail
 try rw [hW]
 clear hW
 refine HO.out.mono ?_
 rintro e w1 ⟨⟨M, rfl⟩, b1⟩
 have B1 := HBx.out.below b1 HBx.out.lt
 have c0 := B1.c0
 have c1 := B1.c1
 have c2 := B1.c2
 have f0 := B1.f 0
 have f1 := B1.f 1
 have f2 := B1.f 2
 have HZ := hid (keepS HB0.out b1)
 have HC := hid (B1.set (.map none) (.map none) (.map none))
 clear b1 HO k0 k1 B1
 go_wp2_with fail
 have r0 := HC.out.c0
 have r1 := HC.out.c1
 have r2 := HC.out.c2
 refine bodyPost_ret (v := .tuple #[.agg #[.map none, .map none, .map none], .bool false]) (by simp [results, Tryz.results54, go_sem, r0, r1, r2]) rfl ⟨rfl, ?_⟩
 exact ((HZ.out.setCell (by simp) _).setCell (by simp) _).setCell (by simp) _
theorem GrpAt.set {w : World} {bm n : Nat} {D : DataW Value} {G : Int → Value} {L : Int → List (Int × Int)} (h : GrpAt w bm n D G L) (q : Addr) (u : Value) (hq : q.block < bm) : GrpAt (w.setCell q u) bm n D G L := by
 have hg : w.grownBy (w.setCell q u) (some q.block) := ⟨rfl, rfl, rfl, by simp [World.setCell], fun k _ hk => Below.heap_setCell _ _ _ _ (fun e => hk (by rw [e]))⟩
 refine ⟨h.own.kept hg (fun e => by injection e with e; omega), h.at', h.has', fun r => (h.rows r).kept hg ?_, h.apart⟩
 cases e : (G r).ownBlock with
 | none => exact .inl rfl
 | some g => exact .inr (fun e2 => by have := ((h.rows r).lt g e).1; injection e2 with e2; omega)
theorem openStateK (a : Option Addr) (c : Nat) (l : List Lf) (x : Option Addr) (n d : Nat) (R F T : Nat → Int) (w : World) (hn : l.length ≤ 1048576) (hp : LBd l) (hi : ∀ i, LfI (gL l i)) (hm : n ≤ 1048576) (h : LSeg w a l) (h' : RSeg w x n R F T) (hok : StOk R F T n l) :
  Calls Tryz.prog 54 #[.agg #[.slice a l.length c, .slice x n d]] w fun e w' => (∃ x0 bm D G N B, e = .returned (.tuple #[.agg #[.map (some x0.1), .map (some x0.2), .map (some bm)], .bool true]) ∧ GrpAt w' bm n D G (Lk R F T n) ∧ w.heap.size ≤ bm ∧ w.heap.size ≤ B ∧ bm < B ∧ Tre w' B N (Mk l l.length) (9 * l.length) ∧ N [] = some x0 ∧ NkI l l.length N) ∧ Below w.heap.size w w' := by
 obtain ⟨W, hW⟩ : ∃ W, (w.alloc (.cells #[.slice a l.length c, .slice x n d] 36)).alloc (.cells #[.map none, .map none, .map none] 68) = W := ⟨_, rfl⟩
 have b0 : Below w.heap.size w W := by rw [← hW]; exact below2 _ _ _
 have B0 : Bx3 W (w.heap.size + 1) (.map none) (.map none) (.map none) := by rw [← hW]; simpa using Bx3.made (w.alloc (.cells #[.slice a l.length c, .slice x n d] 36)) (.map none) (.map none) (.map none) 68
 have k0 : W.cell? ⟨w.heap.size, 0, none⟩ = some (.slice a l.length c) := by rw [← hW]; simp
 have k1 : W.cell? ⟨w.heap.size, 1, none⟩ = some (.slice x n d) := by rw [← hW]; simp
 have HO := hid (openRunsK a c l x n d R F T W hn hp hi hm (h.below b0) (h'.below b0) hok)
 have HB0 := hid b0
 have HBx := hid B0
 have HOK := hid hok
 have HL := hid (h.below b0)
 have hlen := hok.2.1
 clear h h' b0 B0 hok
 go_enter Tryz.func54, Tryz.ntmps54
 go_wp2_with fail
 try rw [hW]
 clear hW
 refine HO.out.mono ?_
 rintro e w1 ⟨⟨bm, D, G, rfl, hgrp, hbm⟩, b1⟩
 have B1 := HBx.out.below b1 HBx.out.lt
 have HB1 := hid B1
 have HZ := hid (keepS HB0.out b1)
 have k2 := (b1.cell (p := ⟨w.heap.size, 0, none⟩) (show w.heap.size < W.heap.size by have := HBx.out.lt; omega)).trans k0
 have HL1 := hid (HL.out.below b1)
 have HGR := hid hgrp
 have HBM := hid (show w.heap.size + 1 < bm from by have := HBx.out.lt; omega)
 clear b1 HO k0 k1 B1 hgrp hbm HL HBx
 go_wp2_with fail
 refine (newNode w1).mono ?_
 rintro e w2 ⟨s1, s2, rfl, hss, hs1, hs2, m1, m2, b2⟩
 obtain ⟨w3, hw3⟩ : ∃ w3, w2.alloc (.cells #[.map (some s1), .map (some s2)] 64) = w3 := ⟨_, rfl⟩
 have b3 : Below w1.heap.size w1 w3 := by rw [← hw3]; exact b2.alloc b2.size _
 have NB : Bx2 w3 w2.heap.size (.map (some s1)) (.map (some s2)) := by rw [← hw3]; exact Bx2.made _ _ _ _
 have HNB := hid NB
 have T0 : Tre w3 w1.heap.size (fun z => if z = [] then some (s1, s2) else none) (Mk l 0) 0 := by
  have e1 : w3.heap[s1]? = w2.heap[s1]? := by rw [← hw3]; exact Below.heap_alloc _ _ _ m1.lt
  have e2 : w3.heap[s2]? = w2.heap[s2]? := by rw [← hw3]; exact Below.heap_alloc _ _ _ m2.lt
  refine ⟨fun p x hx => ?_, fun p x hx => ?_, fun p q x y hx hy => ?_, fun p x hx => ?_, fun p hp => rfl, fun p y hp => by simp⟩
  ·split at hx
   ·injection hx with hx; subst hx; exact (m1.same e1).ext (fun y => by simp)
   ·cases hx
  ·split at hx
   ·injection hx with hx; subst hx; exact m2.same e2
   ·cases hx
  ·split at hx
   ·rename_i ep
    split at hy
    ·rename_i eq
     injection hx with hx; injection hy with hy; subst hx; subst hy
     exact ⟨hss, fun _ => by rw [ep, eq], fun _ => by rw [ep, eq]⟩
    ·cases hy
   ·cases hx
  ·split at hx
   ·injection hx with hx; subst hx; exact ⟨hs1, hs2⟩
   ·cases hx
 have HT0 := hid T0
 have HB3 := hid (HB1.out.below b3 HB1.out.lt)
 have HZ3 := hid (keepS HZ.out b3)
 have k3 := (b3.cell (p := ⟨w.heap.size, 0, none⟩) (show w.heap.size < w1.heap.size by have := HB1.out.lt; omega)).trans k2
 have HL3 := hid (HL1.out.below b3)
 have Hb3 := hid b3
 have HW := hid (show w.heap.size ≤ w1.heap.size ∧ w.heap.size + 1 < w1.heap.size ∧ bm < w1.heap.size ∧ w1.heap.size ≤ w3.heap.size from ⟨HZ.out.size, HB1.out.lt, HGR.out.own.lt, b3.size⟩)
 clear m1 m2 b2 b3 NB T0 hss hs1 hs2 HB1 HL1 k2
 go_wp2_with fail
 try rw [hw3]
 clear hw3 k3
 go_loopw [21] (fun i wr => ∃ k : Nat, k ≤ l.length ∧ i = .int .i64 k ∧ Hid (Gt w1.heap.size w3 wr) ∧ (∃ N, Hid (Tre wr w1.heap.size N (Mk l k) (9 * k)) ∧ Hid (N [] = some (s1, s2)) ∧ Hid (NkI l k N))) (fun i _ => l.length - (intOf i).toNat)
 case atStart =>
  refine ⟨0, Nat.zero_le _, rfl, hid (Gt.refl _ _), _, HT0, hid (if_pos rfl), hid (fun z => ?_)⟩
  show ((if z = [] then some (s1, s2) else none : Option (Nat × Nat)).isSome = true ↔ _)
  by_cases e : z = []
  ·rw [if_pos e]; exact ⟨fun _ => .inl e, fun _ => rfl⟩
  ·rw [if_neg e]; exact ⟨fun h => by simp at h, fun h => by rcases h with h | ⟨j, hj, _⟩; exact absurd h e; omega⟩
 case round =>
  clear HT0
  obtain ⟨k, hk, rfl, HG, N, HT, HN, HI⟩ := hrel
  by_cases hlt : k < l.length
  ·rcases (HL3.out.gt HG.out) with h | ⟨b, off, rfl, hb, hc⟩
   ·omega
   obtain ⟨pa, pc, x0, s, x1, x2, x3, x4⟩ := hc k hlt
   have hlk := HOK.out.2.2.1 k hlt
   have hwf := hi k
   have hpk := hp k
   have i1 : (0 : Int) ≤ (k : Int) := Int.natCast_nonneg _
   have i2 : (k : Int) < (l.length : Int) := by omega
   obtain ⟨y, hy⟩ : ∃ y, gL l k = y := ⟨_, rfl⟩
   rw [hy] at s x0 x1 x2 x3 x4 hpk hwf hlk
   have HS := hid s
   have HE := hid hy
   obtain ⟨p, fl, r, q, v⟩ := y
   dsimp only [LfI] at HS x0 x1 x2 x3 x4 hpk hwf
   have HPO := hid hlk.1.1
   have HNB3 := hid (HNB.out.gt HG.out)
   clear hc s hy hlk
   obtain ⟨W2, hW2⟩ : ∃ W2, wr.alloc (.cells #[.slice pa p.length pc, .bool fl, .int .i64 r, .int .i64 q, .string v] 57) = W2 := ⟨_, rfl⟩
   have b4 : Below wr.heap.size wr W2 := by rw [← hW2]; exact (Below.refl _ _).alloc (Nat.le_refl _) _
   have B5 : Bx5 W2 wr.heap.size (.slice pa p.length pc) (.bool fl) (.int .i64 r) (.int .i64 q) (.string v) := by rw [← hW2]; exact ⟨by simp, by simp, by simp, by simp, by simp, fun i => by simp, by simp⟩
   have N5 := HNB3.out.below b4 HNB3.out.lt
   have y0 := B5.c0
   have y1 := B5.c1
   have y2 := B5.c2
   have y3 := B5.c3
   have y4 := B5.c4
   have n0 := N5.c0
   have n1 := N5.c1
   have HS4 := hid (HS.out.below b4)
   have HT4 := hid (HT.out.below b4)
   have HG4 := hid (HG.out.keep b4)
   clear b4 B5 N5 HS HT HG HNB3
   go_wp2_with fail
   have HCS : Hid (∀ w', Gt w1.heap.size W2 w' → (Gt w1.heap.size W2 w' ∧ w'.cell? ⟨w2.heap.size, 0, none⟩ = some (.map (some s1)) ∧ w'.cell? ⟨w2.heap.size, 1, none⟩ = some (.map (some s2)) ∧ w'.cell? ⟨wr.heap.size, 0, none⟩ = some (.slice pa p.length pc) ∧ w'.cell? ⟨wr.heap.size, 1, none⟩ = some (.bool fl) ∧ w'.cell? ⟨wr.heap.size, 2, none⟩ = some (.int .i64 r) ∧ w'.cell? ⟨wr.heap.size, 3, none⟩ = some (.int .i64 q) ∧ w'.cell? ⟨wr.heap.size, 4, none⟩ = some (.string v))) := hid (fun w' hB => ⟨hB, hB.cell n0, hB.cell n1, hB.cell y0, hB.cell y1, hB.cell y2, hB.cell y3, hB.cell y4⟩)
   refine wp_region_held_drew (S := fun w' => Gt w1.heap.size W2 w' ∧ w'.cell? ⟨w2.heap.size, 0, none⟩ = some (.map (some s1)) ∧ w'.cell? ⟨w2.heap.size, 1, none⟩ = some (.map (some s2)) ∧ w'.cell? ⟨wr.heap.size, 0, none⟩ = some (.slice pa p.length pc) ∧ w'.cell? ⟨wr.heap.size, 1, none⟩ = some (.bool fl) ∧ w'.cell? ⟨wr.heap.size, 2, none⟩ = some (.int .i64 r) ∧ w'.cell? ⟨wr.heap.size, 3, none⟩ = some (.int .i64 q) ∧ w'.cell? ⟨wr.heap.size, 4, none⟩ = some (.string v)) (by kernel_rfl) (HCS.out _ (Gt.of_below (Below.refl _ _).drew)) (fun hHeld => ?_)
   refine tk 0 25 ?_ (by kernel_rfl) (fun _ _ _ h => h) ?_ hHeld (tk 1 26 ?_ (by kernel_rfl) (fun _ _ _ h => h) ?_ hHeld (tk 2 27 ?_ (by kernel_rfl) (fun _ _ _ h => h) ?_ hHeld (tk 3 28 ?_ (by kernel_rfl) (fun _ _ _ h => h) ?_ hHeld (tk 5 30 ?_ (by kernel_rfl) (fun _ _ _ h => h) ?_ hHeld ?_))))
   iterate 5 (rotate_left; focus (intro o ho; simp only [gZa, gZb, gZc, gZd] at ho; subst ho; refine Or.inl ⟨by rfl, ?_⟩; intro w hSw; (try dsimp only at hSw); (try simp only [Act.put, sZa, sZb, sZc]); go_simp; try with_reducible rfl))
   try simp only [Act.put, sZa, sZb, sZc]
   refine tk 6 31 ?_ (by kernel_rfl) (fun _ _ _ h => h) ?_ hHeld (tk 7 32 ?_ (by kernel_rfl) (fun _ _ _ h => h) ?_ hHeld (tk 8 33 ?_ (by kernel_rfl) (fun _ _ _ h => h) ?_ hHeld (tk 9 34 ?_ (by kernel_rfl) (fun _ _ _ h => h) ?_ hHeld ?_)))
   iterate 4 (rotate_left; focus (intro o ho; simp only [gZa, gZb, gZc, gZd] at ho; subst ho; refine Or.inl ⟨by rfl, ?_⟩; intro w hSw; (try dsimp only at hSw); (try simp only [Act.put, sZa, sZb, sZc]); go_simp; try with_reducible rfl))
   try simp only [Act.put, sZa, sZb, sZc]
   refine call1 (i := 4) (d := some 29) (by kernel_rfl) (by kernel_rfl) ?_
   intro o ho hod K hK; simp only [gZa, gZb, gZc, gZd] at ho; subst ho
   go_simp
   refine (leafKind _ fl _ _ _ _).mono ?_
   rintro e w5 ⟨rfl, b5⟩
   have b5' : Below W2.heap.size W2 w5 := ⟨b5.os, b5.tape, b5.output, b5.size, b5.block⟩
   refine hK.out _ _ (HCS.out _ (Gt.of_below b5')) (fun hHeld => ?_)
   clear hK K
   try simp only [Act.put, sZa, sZb, sZc]
   refine call1 (i := 10) (d := some 35) (by kernel_rfl) (by kernel_rfl) ?_
   intro o ho hod K hK; simp only [gZa, gZb, gZc, gZd] at ho; subst ho
   go_simp
   refine (putC p pa pc (kd fl) r q v w1.heap.size (9 * k) N (Mk l k) (s1, s2) w5 hpk (fun i => ?_) (kd_wf fl) hwf.1 hwf.2 (by omega) ?_ (HS4.out.below b5') (HT4.out.below b5') HN.out).mono ?_
   ·by_cases hi' : i < p.length
    ·have := (HPO.out.2.2 i hi').2; omega
    ·rw [gS_far (by omega)]; simp
   ·have h1 := HW.out.2.2.2; have h2 := HG4.out.size; have h3 := b5'.size; omega
   rintro e w6 ⟨rfl, g6, N', T6, hN', hI'⟩
   have HG6 := hid ((HG4.out.keep b5').trans g6)
   have HT6 := hid T6
   have HI6 := hid hI'
   have HN6 := hid hN'
   refine hK.out _ _ (HCS.out _ ((Gt.of_below b5').trans g6)) (fun hHeld => ?_)
   clear hK K
   try simp only [Act.put, sZa, sZb, sZc]
   refine wpAnyH_done (by kernel_rfl) ?_ _
   clear hHeld b5 b5' g6 T6 hN' hI'
   go_wp2_with fail
   go_roundw
   case rel =>
    have hp8 := HPO.out.2.1
    refine ⟨k + 1, hlt, by go_num, HG6, N', hid ?_, HN6, hid (HI.out.step ?_)⟩
    ·have e : Mk l (k + 1) = updM (Mk l k) (wayOf p (kd fl)) (r, q) v := by simp only [Mk]; rw [HE.out]
     rw [e]; exact HT6.out.mono (by omega)
    ·rw [HE.out]; exact HI6.out
   case measure => simp [intOf]; omega
  ·obtain rfl : k = l.length := by omega
   have N5 := HNB.out.gt HG.out
   have n0 := N5.c0
   have n1 := N5.c1
   have B5 := HB3.out.gt HG.out
   have c0 := B5.c0
   have c1 := B5.c1
   have c2 := B5.c2
   have f0 := B5.f 0
   have f1 := B5.f 1
   have f2 := B5.f 2
   have HC := hid (B5.set (.map (some s1)) (.map (some s2)) (.map (some bm)))
   have hG5 : Below w1.heap.size w3 wr := HG.out.below HW.out.2.2.2
   have HGx := hid (HGR.out.below (Hb3.out.trans hG5))
   have HZ5 := hid (HZ3.out.trans (hG5.mono HW.out.1))
   clear N5 B5 hG5
   go_wp2_with fail
   have r0 := HC.out.c0
   have r1 := HC.out.c1
   have r2 := HC.out.c2
   refine bodyPost_ret (v := .tuple #[.agg #[.map (some s1), .map (some s2), .map (some bm)], .bool true]) (by simp [results, Tryz.results54, go_sem, r0, r1, r2]) rfl ⟨⟨(s1, s2), bm, D, G, N, w1.heap.size, rfl, ?_, by have := HBM.out; omega, HW.out.1, HW.out.2.2.1, ?_, HN.out, HI.out⟩, ?_⟩
   ·exact ((HGx.out.set _ _ HBM.out).set _ _ HBM.out).set _ _ HBM.out
   ·exact ((HT.out.set _ c0).set _ (HB3.out.gt HG.out |>.set0 _).c1).set _ ((HB3.out.gt HG.out |>.set0 _).set1 _).c2
   ·exact ((HZ5.out.setCell (by simp) _).setCell (by simp) _).setCell (by simp) _
theorem ready2t {P : Program} {ops : Array Oper} {Q : Exit → Act → World → Prop} {md : Region.Mode} {S : World → Prop} {i j : Nat} {d d' : Option Tmp} {fuel : Nat} {listed : Array Bool} {a : Act} {w : World}
  (hd : ops[i]?.map (fun o => o.dst) = some d) (hd' : ops[j]?.map (fun o => o.dst) = some d') (hr : Region.ready md ops listed = [i, j])
  (h : ∀ o, ops[i]? = some o → o.dst = d → ∀ K' : Act → World → Prop, Shut (∀ a w, S w → (S w → wpAnyH P md ops Q S fuel (listed.setIfInBounds i true) a w) → K' a w) → if Region.wanted o (yielded ops a.tmps) = true then Oper.wp P o a w K' Q else K' (a.put o.dst undef) w)
  (h' : ∀ o, ops[j]? = some o → o.dst = d' → ∀ K' : Act → World → Prop, Shut (∀ a w, S w → (S w → wpAnyH P md ops Q S fuel (listed.setIfInBounds j true) a w) → K' a w) → if Region.wanted o (yielded ops a.tmps) = true then Oper.wp P o a w K' Q else K' (a.put o.dst undef) w) :
  wpAnyH P md ops Q S (fuel + 1) listed a w := by
 obtain ⟨o, ho, hod⟩ := Option.map_eq_some_iff.1 hd
 obtain ⟨o', ho', hod'⟩ := Option.map_eq_some_iff.1 hd'
 exact wpAnyH_ready hr (by simp) (AllReadyH.cons ho (h o ho hod) (AllReadyH.cons ho' (h' o' ho' hod') AllReadyH.nil))
def mF (o : Option (Nat × Nat)) : Option Nat := o.map Prod.fst
def mS (o : Option (Nat × Nat)) : Option Nat := o.map Prod.snd
theorem nodV_eq (o : Option (Nat × Nat)) : nodV o = .agg #[.map (mF o), .map (mS o)] := by cases o <;> rfl
theorem Tre.look {w : World} {B c : Nat} {N : List Ky → Option (Nat × Nat)} {M : List Ky → Dt → Option ByteArray} (h : Tre w B N M c) (p : List Ky) (y : Ky) {kl : Lit} (hk : keyOf Tryz.prog 140 (keyV y) = some kl) :
  (Instr.lookup 61 (.map (mF (N p))) (keyV y) false).run Tryz.prog w = .ok (.agg #[.map (mF (N (p ++ [y]))), .map (mS (N (p ++ [y])))]) w := by
 rw [← nodV_eq]
 cases e : N p with
 | some x => exact (h.kids p x e).look keyKeyed Tryz.underlying61 (zeroNode w) hk
 | none =>
  rw [h.up p y e]
  exact Maps.look_nil false keyKeyed Tryz.underlying61 (zeroNode w) hk
theorem atC (p : List ByteArray) (a : Option Addr) (cp : Nat) (k : Int) (B c : Nat) (N : List Ky → Option (Nat × Nat)) (M : List Ky → Dt → Option ByteArray) (w : World)
  (hp : p.length ≤ 1048576) (hs : ∀ i, (gS p i).size ≤ 1048576) (hk : (Lit.int .i64 k).wf = true) (h : SSeg w a p) (hT : Tre w B N M c) :
  Calls Tryz.prog 75 #[.agg #[.map (mF (N [])), .map (mS (N []))], .slice a p.length cp, .int .i64 k] w fun e w' => e = .returned (.agg #[.map (mF (N (wayOf p k))), .map (mS (N (wayOf p k)))]) ∧ Below w.heap.size w w' := by
 obtain ⟨u0, hu0⟩ : ∃ u, mF (N []) = u := ⟨_, rfl⟩
 obtain ⟨u1, hu1⟩ : ∃ u, mS (N []) = u := ⟨_, rfl⟩
 rw [hu0, hu1]
 obtain ⟨W, hW⟩ : ∃ W, (w.alloc (.cells #[.map u0, .map u1] 64)).alloc (.cells #[.map none, .map none] 64) = W := ⟨_, rfl⟩
 have b0 : Below w.heap.size w W := by rw [← hW]; exact below2 _ _ _
 have P0 : Bx2 W w.heap.size (.map u0) (.map u1) := by rw [← hW]; exact (Bx2.made w _ _ _).allocs _
 have P1 : Bx2 W (w.heap.size + 1) (.map none) (.map none) := by rw [← hW]; simpa using Bx2.made (w.alloc (.cells #[.map u0, .map u1] 64)) (.map none) (.map none) 64
 have HS := hid h
 have HP0 := hid P0
 have HP1 := hid P1
 have HT := hid hT
 have HB0 := hid b0
 have HU := hid (And.intro hu0 hu1)
 have Hs := hid hs
 clear h hT b0 P0 P1 hs hu0 hu1
 go_enter Tryz.func75, Tryz.ntmps75
 go_wp2_with fail
 try rw [hW]
 clear hW
 go_loopw [10] (fun i wr => ∃ j : Nat, j ≤ p.length ∧ i = .int .i64 j ∧ Hid (Below w.heap.size w wr) ∧ (∃ u v, Hid (mF (N ((wayOf p k).take j)) = u ∧ mS (N ((wayOf p k).take j)) = v) ∧ Hid (Bx2 wr w.heap.size (.map u) (.map v)) ∧ Hid (Bx2 wr (w.heap.size + 1) (.map none) (.map none)))) (fun i _ => p.length - (intOf i).toNat)
 case atStart => exact ⟨0, Nat.zero_le _, rfl, HB0, u0, u1, hid (by simpa using HU.out), HP0, HP1⟩
 case round =>
  clear HP0 HP1 HB0 HU
  obtain ⟨j, hj, rfl, HB, u, v, HU, HP, HR⟩ := hrel
  by_cases hlt : j < p.length
  ·have i1 : (0 : Int) ≤ (j : Int) := Int.natCast_nonneg _
   have i2 : (j : Int) < (p.length : Int) := by omega
   obtain ⟨nm, kd, hkey⟩ : ∃ nm kd, onWay p k j = (nm, kd) := ⟨_, _, rfl⟩
   obtain ⟨kl, hkl⟩ : ∃ kl, keyOf Tryz.prog 140 (keyV (nm, kd)) = some kl := by
    unfold onWay at hkey
    have e1 := (Prod.mk.inj hkey).1
    have e2 := (Prod.mk.inj hkey).2
    refine keyKey ?_ ?_
    ·rw [← e1]; have := Hs.out j; unfold maxLen; omega
    ·rw [← e2]; split
     ·decide
     ·exact hk
   have hst : (wayOf p k).take (j + 1) = (wayOf p k).take j ++ [(nm, kd)] := by rw [wayOf_take hlt]; have := hkey; unfold onWay at this; rw [this]
   have HKW : Hid (∀ w1, Below wr.heap.size wr w1 → Calls Tryz.prog 88 #[.slice a p.length cp, .int .i64 j, .int .i64 k] w1 fun e w' => e = .returned (.agg #[.string nm, .int .i64 kd]) ∧ Below w1.heap.size w1 w') := hid (fun w1 b1 => by
    have := keyOnWay p a cp k j w1 hp hlt (HS.out.below (HB.out.trans (b1.mono HB.out.size)))
    rw [hkey] at this; exact this)
   obtain ⟨u', hu'⟩ : ∃ u', mF (N ((wayOf p k).take (j + 1))) = u' := ⟨_, rfl⟩
   obtain ⟨v', hv'⟩ : ∃ v', mS (N ((wayOf p k).take (j + 1))) = v' := ⟨_, rfl⟩
   have HU' := hid (And.intro hu' hv')
   have HLK : Hid (∀ w1, Below wr.heap.size wr w1 → (Instr.lookup 61 (.map u) (.agg #[.string nm, .int .i64 kd]) false).run Tryz.prog w1 = .ok (.agg #[.map u', .map v']) w1) := hid (fun w1 b1 => by
    have := (HT.out.below (HB.out.trans (b1.mono HB.out.size))).look ((wayOf p k).take j) (nm, kd) hkl
    rw [← hst, hu', hv', HU.out.1] at this; exact this)
   have n0 := HP.out.c0
   have zb := HP.out.lt
   have HZ : Hid (∀ w1, Below wr.heap.size wr w1 → w1.cell? ⟨w.heap.size, 0, none⟩ = some (.map u) ∧ w1.cell? ⟨w.heap.size, 1, none⟩ = some (.map v) ∧ w1.frozen? ⟨w.heap.size, 0, none⟩ = false ∧ w1.frozen? ⟨w.heap.size, 1, none⟩ = false ∧ Below w.heap.size w ((w1.setCell ⟨w.heap.size, 0, none⟩ (.map u')).setCell ⟨w.heap.size, 1, none⟩ (.map v')) ∧ Bx2 ((w1.setCell ⟨w.heap.size, 0, none⟩ (.map u')).setCell ⟨w.heap.size, 1, none⟩ (.map v')) w.heap.size (.map u') (.map v') ∧ Bx2 ((w1.setCell ⟨w.heap.size, 0, none⟩ (.map u')).setCell ⟨w.heap.size, 1, none⟩ (.map v')) (w.heap.size + 1) (.map none) (.map none)) := hid (fun w1 b1 => by
    have P := HP.out.below b1 HP.out.lt
    exact ⟨P.c0, P.c1, P.f 0, P.f 1, ((HB.out.trans (b1.mono HB.out.size)).setCell (p := ⟨w.heap.size, 0, none⟩) (Nat.le_refl _) _).setCell (p := ⟨w.heap.size, 1, none⟩) (Nat.le_refl _) _, P.set _ _, ((HR.out.below b1 HR.out.lt).setAt _ _ (by simp)).setAt _ _ (by simp)⟩)
   clear hkey hkl hst hu' hv' HB HP HR HU
   go_wp2_with fail
   refine wp_region_held_drew (S := fun w' => True) (by kernel_rfl) trivial (fun hHeld => ?_)
   refine tk 0 13 ?_ (by kernel_rfl) (fun _ _ _ h => h) ?_ hHeld (tk 2 15 ?_ (by kernel_rfl) (fun _ _ _ h => h) ?_ hHeld (tk 3 16 ?_ (by kernel_rfl) (fun _ _ _ h => h) ?_ hHeld (tk 4 17 ?_ (by kernel_rfl) (fun _ _ _ h => h) ?_ hHeld ?_)))
   iterate 4 (rotate_left; focus (intro o ho; simp only [gZa, gZb, gZc, gZd] at ho; subst ho; refine Or.inl ⟨by rfl, ?_⟩; intro w hSw; (try dsimp only at hSw); (try simp only [Act.put, sZa, sZb, sZc]); go_simp; try with_reducible rfl))
   try simp only [Act.put, sZa, sZb, sZc]
   refine ready2t (i := 1) (j := 5) (d := some 14) (d' := some 18) (by kernel_rfl) (by kernel_rfl) (by kernel_rfl) ?_ ?_
   ·
    intro o ho hod K hK; simp only [gZa, gZb, gZc, gZd] at ho; subst ho
    go_simp
    refine hK.out _ _ trivial (fun hHeld => ?_)
    clear hK K
    try simp only [Act.put, sZa, sZb, sZc]
    refine call1 (i := 5) (d := some 18) (by kernel_rfl) (by kernel_rfl) ?_
    intro o ho hod K hK; simp only [gZa, gZb, gZc, gZd] at ho; subst ho
    go_simp
    refine (HKW.out _ (Below.refl _ _).drew).mono ?_
    rintro e w1 ⟨rfl, b1⟩
    refine hK.out _ _ trivial (fun hHeld => ?_)
    clear hK K
    try simp only [Act.put, sZa, sZb, sZc]
    have b1' : Below wr.heap.size wr w1 := ⟨b1.os, b1.tape, b1.output, b1.size, b1.block⟩
    have hlk := HLK.out _ b1'
    refine call1 (i := 6) (d := some 19) (by kernel_rfl) (by kernel_rfl) ?_
    intro o ho hod K hK; simp only [gZa, gZb, gZc, gZd] at ho; subst ho
    go_simp
    refine hK.out _ _ trivial (fun hHeld => ?_)
    clear hK K
    try simp only [Act.put, sZa, sZb, sZc]
    clear hlk
    obtain ⟨t0, t1, t2, t3, z1, z2, z3⟩ := HZ.out _ b1'
    have HZ1 := hid z1
    have HZ2 := hid z2
    have HZ3 := hid z3
    clear z1 z2 z3
    refine call1 (i := 7) (d := none) (by kernel_rfl) (by kernel_rfl) ?_
    intro o ho hod K hK; simp only [gZa, gZb, gZc, gZd] at ho; subst ho
    go_simp
    refine hK.out _ _ trivial (fun hHeld => ?_)
    clear hK K
    try simp only [Act.put, sZa, sZb, sZc]
    refine wpAnyH_done (by kernel_rfl) ?_ _
    clear hHeld b1 b1' t0 t1 t2 t3 HZ HLK HKW
    go_wp2_with fail
    go_roundw
    case rel => exact ⟨j + 1, hlt, by go_num, HZ1, u', v', HU', HZ2, HZ3⟩
    case measure => simp [intOf]; omega
   ·
    intro o ho hod K hK; simp only [gZa, gZb, gZc, gZd] at ho; subst ho
    go_simp
    refine (HKW.out _ (Below.refl _ _).drew).mono ?_
    rintro e w1 ⟨rfl, b1⟩
    refine hK.out _ _ trivial (fun hHeld => ?_)
    clear hK K
    try simp only [Act.put, sZa, sZb, sZc]
    have t0 := (HZ.out _ ⟨b1.os, b1.tape, b1.output, b1.size, b1.block⟩).1
    refine call1 (i := 1) (d := some 14) (by kernel_rfl) (by kernel_rfl) ?_
    intro o ho hod K hK; simp only [gZa, gZb, gZc, gZd] at ho; subst ho
    go_simp
    refine hK.out _ _ trivial (fun hHeld => ?_)
    clear hK K
    try simp only [Act.put, sZa, sZb, sZc]
    clear t0
    have b1' : Below wr.heap.size wr w1 := ⟨b1.os, b1.tape, b1.output, b1.size, b1.block⟩
    have hlk := HLK.out _ b1'
    refine call1 (i := 6) (d := some 19) (by kernel_rfl) (by kernel_rfl) ?_
    intro o ho hod K hK; simp only [gZa, gZb, gZc, gZd] at ho; subst ho
    go_simp
    refine hK.out _ _ trivial (fun hHeld => ?_)
    clear hK K
    try simp only [Act.put, sZa, sZb, sZc]
    clear hlk
    obtain ⟨t0, t1, t2, t3, z1, z2, z3⟩ := HZ.out _ b1'
    have HZ1 := hid z1
    have HZ2 := hid z2
    have HZ3 := hid z3
    clear z1 z2 z3
    refine call1 (i := 7) (d := none) (by kernel_rfl) (by kernel_rfl) ?_
    intro o ho hod K hK; simp only [gZa, gZb, gZc, gZd] at ho; subst ho
    go_simp
    refine hK.out _ _ trivial (fun hHeld => ?_)
    clear hK K
    try simp only [Act.put, sZa, sZb, sZc]
    refine wpAnyH_done (by kernel_rfl) ?_ _
    clear hHeld b1 b1' t0 t1 t2 t3 HZ HLK HKW
    go_wp2_with fail
    go_roundw
    case rel => exact ⟨j + 1, hlt, by go_num, HZ1, u', v', HU', HZ2, HZ3⟩
    case measure => simp [intOf]; omega
  ·obtain rfl : j = p.length := by omega
   have htk : (wayOf p k).take p.length = wayOf p k := List.take_of_length_le (by rw [wayOf_len]; exact Nat.le_refl _)
   rw [htk] at HU
   have c0 := HP.out.c0
   have c1 := HP.out.c1
   have d0 := HR.out.c0
   have d1 := HR.out.c1
   have f0 := HR.out.f 0
   have f1 := HR.out.f 1
   have HX := hid (HR.out.set (.map u) (.map v))
   clear htk HP HR
   go_wp2_with fail
   have r0 := HX.out.c0
   have r1 := HX.out.c1
   refine bodyPost_ret (v := .agg #[.map u, .map v]) (by simp [results, Tryz.results75, go_sem, r0, r1]) rfl ⟨by rw [HU.out.1, HU.out.2], ?_⟩
   exact (HB.out.setCell (by simp) _).setCell (by simp) _
theorem toList_inj {s t : ByteArray} (h : s.toList = t.toList) : s = t := by
 rw [ByteArray.toList_eq, ByteArray.toList_eq] at h
 exact bytes_inj h
theorem less_self : ∀ l : List UInt8, Op.bytesLess l l = false
 | [] => rfl
 | a :: l => by simp [Op.bytesLess, less_self l]
theorem cmpS_z {s t : ByteArray} : cmpS s t = 0 ↔ s = t := by
 unfold cmpS ltS eqS
 constructor
 ·intro h
  split at h
  ·cases h
  ·split at h
   ·rename_i e; exact toList_inj (by simpa using e)
   ·cases h
 ·rintro rfl
  rw [if_neg (by rw [less_self]; simp), if_pos (by simp)]
theorem cmpP_z : ∀ {p q : List ByteArray}, cmpP p q = 0 ↔ p = q
 | [], [] => by simp [cmpP]
 | [], _ :: _ => by simp [cmpP]
 | _ :: _, [] => by simp [cmpP]
 | s :: p, t :: q => by
  simp only [cmpP]
  by_cases e : cmpS s t = 0
  ·rw [if_pos e, cmpP_z]
   have := cmpS_z.1 e
   subst this
   simp
  ·rw [if_neg e]
   exact ⟨fun h => absurd h e, fun h => by injection h with h1 h2; exact absurd (cmpS_z.2 h1) e⟩
end Go.Proofs.YtcbcabhjododoaaGreat
