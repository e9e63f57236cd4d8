import Derived.Test.YtcbcabhjododoaaGreatFg34
import Derived.Test.YtcbcabhjododoaaGreatFg05
import Derived.Test.YtcbcabhjododoaaGreatFg02
set_option linter.unusedVariables false
set_option linter.unusedSimpArgs false
set_option maxRecDepth 100000
set_option maxHeartbeats 40000000
namespace Go.Proofs.YtcbcabhjododoaaGreat
open Go.ChangeShapes Go.WideShapes Go.ChangeAt Go.RowKit Go.Maps Go.Sort
def fCells (l : List Rn) : List Value := l.flatMap fun p => [.int .i64 p.1, .int .i64 p.2.1, .int .i64 p.2.2]
theorem fCells_snoc (l : List Rn) (p : Rn) : fCells (l ++ [p]) = fCells l ++ [.int .i64 p.1, .int .i64 p.2.1, .int .i64 p.2.2] := by simp [fCells]
def FR (w : World) (B : Nat) (v : Value) (l : List Rn) : Prop := w.ownsRow B 94 3 v l.length (fCells l)
theorem GrpR.look {w : World} {bm n : Nat} {D : DataW Value} {G : Int → Value} {L : Int → List (Int × Int)} (h : GrpR w bm n D G L) (r : Int) (hr : (Lit.int .i64 r).wf = true) :
  (Instr.lookup 66 (.map (some bm)) (.int .i64 r) false).run Tryz.prog w = .ok (G r) w := by
 obtain ⟨v, ps, hrun, hv⟩ := h.own.lookup (int_keyed Tryz.underlying3) Tryz.underlying66 (zeroSpans w) (zd := .held (.slice none 0 0)) (zp := []) rfl (keyOf_int_mk Tryz.underlying3 hr)
 have := h.at' r
 obtain ⟨hd, _⟩ := rawR_inv hv
 unfold kI at this
 rw [this] at hd
 have e : v = G r := by injection hd with hd; exact hd.symm
 rw [hrun, e]
theorem keysR_perm {w : World} {bm n : Nat} {D : DataW Value} {G : Int → Value} {L : Int → List (Int × Int)} (h : GrpR w bm n D G L) (hL : ∀ r, L r ≠ [] → 0 ≤ r ∧ r < 8) : (KS L 8).Perm (intKeys D) ∧ Maps.size D = (KS L 8).length := by
 obtain ⟨es, hD, hpw, _⟩ := h.own.entries (int_keyed Tryz.underlying3)
 obtain ⟨es', hD', hko⟩ := h.own.keysOf
 obtain rfl : es = es' := by rw [hD] at hD'; simpa using hD'
 have key : (KS L 8).Perm (intKeys D) := by
  have hh := h.has'
  rw [hD] at hh ⊢
  refine perm_intKeys hpw (fun p hp => by obtain ⟨v, hv⟩ := hko p hp; obtain ⟨x, _, hx, _⟩ := Maps.keyOf_i64 Tryz.underlying3 hv; exact ⟨x, hx⟩) ((KS_lt L 8).imp (fun h => by omega)) (fun x => ?_)
  have := hh x
  unfold kI at this
  rw [this, KS_mem]
  constructor
  ·rintro ⟨_, _, c⟩; rw [c]; rfl
  ·intro c
   have c' : (L x).isEmpty = false := by simpa using c
   have := hL x (by intro e; rw [e] at c'; cases c')
   exact ⟨this.1, this.2, c'⟩
 refine ⟨key, ?_⟩
 rw [key.length_eq, hD]
 simp [Maps.size_eq, intKeys]
def outK (L : Int → List (Int × Int)) (ks : List Int) : Nat → List Rn
 | 0 => []
 | k + 1 => outK L ks k ++ tag (ks.getD k 0) (L (ks.getD k 0))
theorem outK_flat (L : Int → List (Int × Int)) (ks : List Int) : ∀ k, k ≤ ks.length → outK L ks k = (ks.take k).flatMap fun r => tag r (L r)
 | 0, _ => by simp [outK]
 | k + 1, h => by
  have e : ks.take (k + 1) = ks.take k ++ [ks.getD k 0] := by
   rw [List.take_add_one]; simp [List.getD, show k < ks.length by omega]
  rw [e, List.flatMap_append, ← outK_flat L ks k (by omega)]
  simp [outK]
theorem outK_len {L : Int → List (Int × Int)} (hL : ∀ r, (L r).length ≤ 4000) (ks : List Int) : ∀ k, (outK L ks k).length ≤ 4000 * k
 | 0 => by simp [outK]
 | k + 1 => by
  have := outK_len hL ks k
  have := hL (ks.getD k 0)
  simp only [outK, List.length_append, tag, List.length_map]
  omega
theorem tag_take {r : Int} {l : List (Int × Int)} {t : Nat} (h : t < l.length) : (tag r l).take (t + 1) = (tag r l).take t ++ [(r, sF l t, sT l t)] := by
 rw [List.take_add_one]
 simp [tag, sF, sT, List.getD, h]
theorem contextM2 {w : World} {bm n : Nat} {D : DataW Value} {G : Int → Value} {L : Int → List (Int × Int)} (h : GrpR w bm n D G L) (hL : ∀ r, L r ≠ [] → 0 ≤ r ∧ r < 8) (hl : ∀ r, (L r).length ≤ 4000) :
  Calls Tryz.prog 98 #[.map (some bm)] w fun e w' => ∃ v, e = .returned (.agg #[v]) ∧ FR w' w.heap.size v (outF L 8) ∧ Below w.heap.size w w' := by
 obtain ⟨i0, hi, hz0, hz1, hz2⟩ := info_parts Tryz.infoRun
 have hbm := h.own.lt
 obtain ⟨kp, hsz⟩ := keysR_perm h hL
 obtain ⟨ks, hks⟩ : ∃ ks, KS L 8 = ks := ⟨_, rfl⟩
 have HOF : Hid (outF L 8 = outK L ks ks.length) := by
  refine hid ?_
  rw [outK_flat L ks _ (Nat.le_refl _), List.take_length, ← hks]; rfl
 have hkl : ks.length ≤ 8 := by rw [← hks]; exact KS_len L 8
 have HMem : Hid (∀ x ∈ ks, 0 ≤ x ∧ x < 8 ∧ L x ≠ []) := fun x hx => by
  rw [← hks] at hx
  have := (KS_mem L 8 x).1 hx
  exact ⟨this.1, by omega, fun e => by rw [e] at this; simp at this⟩
 have HSo : Hid (∀ ss : List Int, ss.Perm (intKeys D) → ss.mergeSort (fun x y => decide (x ≤ y)) = ks ∧ ss.length = ks.length) := fun ss hs => by rw [← hks]; exact ⟨KS_sorted kp hs, by rw [hs.length_eq, ← kp.length_eq]⟩
 rw [hks] at hsz
 clear hks kp hL
 have HG := hid h
 have HLL := hid hl
 have HGlt : Hid (∀ r g, (G r).ownBlock = some g → g < w.heap.size) := fun r g hg => ((h.rows r).lt g hg).2
 clear h hl
 obtain ⟨W0, hW0⟩ : ∃ W0, (w.alloc (.cells #[.slice none 0 0] 34)).alloc (.cells #[.slice none 0 0] 34) = W0 := ⟨_, rfl⟩
 have HB0 : Hid (Below w.heap.size w W0) := by rw [← hW0]; exact hid (below2 _ _ _)
 have HZ0 : Hid (W0.heap.size = w.heap.size + 2) := by rw [← hW0]; exact hid (by simp)
 have c2 : W0.cell? ⟨w.heap.size, 0, none⟩ = some (.slice none 0 0) := by rw [← hW0]; simp
 have c3 : W0.cell? ⟨w.heap.size + 1, 0, none⟩ = some (.slice none 0 0) := by rw [← hW0]; simp
 have f2 : W0.frozen? ⟨w.heap.size, 0, none⟩ = false := by rw [← hW0]; simp
 have f3 : W0.frozen? ⟨w.heap.size + 1, 0, none⟩ = false := by rw [← hW0]; simp
 have HGR0 := hid (HG.out.below HB0.out)
 go_enter Tryz.func98, Tryz.ntmps98
 go_wp2_with fail
 try rw [hW0]
 refine (keysC (some bm) W0).mono ?_
 rintro e w3 ⟨rfl, rfl⟩
 go_wp2_with fail
 refine (sortedC bm n D rawR W0 HGR0.out.own (by rw [hsz]; unfold maxLen; omega) (by rw [hsz]; omega)).mono ?_
 rintro e w4 ⟨v4, ss, rfl, hperm, hrow, hb4⟩
 obtain ⟨hS1, hS2⟩ := HSo.out ss hperm
 rw [hS1, hS2] at hrow
 have z4 : w.heap.size + 2 ≤ w4.heap.size := by have := hb4.size; have := HZ0.out; omega
 have d2 := (hb4.cell (p := ⟨w.heap.size, 0, none⟩) (by have := HZ0.out; show w.heap.size < _; omega)).trans c2
 have d3 := (hb4.cell (p := ⟨w.heap.size + 1, 0, none⟩) (by have := HZ0.out; show w.heap.size + 1 < _; omega)).trans c3
 have k2 := ((bcell hb4).2 w.heap.size 0 (by have := HZ0.out; omega)).trans f2
 have k3 := ((bcell hb4).2 (w.heap.size + 1) 0 (by have := HZ0.out; omega)).trans f3
 have HB4 := hid (keepS HB0.out hb4)
 have HG4 := hid (HG.out.below HB4.out)
 clear hperm hS1 hS2 HSo hb4 hW0 c2 c3 HGR0 f2 f3
 have hkc : Hid (ks.length = 0 ∨ ∃ g cap, v4 = .slice (some ⟨g, 0, none⟩) ks.length cap ∧ g < w4.heap.size ∧ w.heap.size + 2 ≤ g ∧ ks.length ≤ cap ∧ cap ≤ 9223372036854775807 ∧ ∀ i, i < ks.length → w4.cell? ⟨g, i, none⟩ = some (.int .i64 (ks.getD i 0))) := by
  refine hid ?_
  have hr := hrow
  rcases hrow.2 with ⟨_, e0⟩ | ⟨g, cap, cur, rfl, hbg, hg, hnc, hcm, hcs, htake⟩
  ·exact .inl e0
  ·have := HZ0.out
   unfold maxLen at hcm
   exact .inr ⟨g, cap, rfl, (hr.lt g rfl).2, by omega, hnc, by omega, row_ints hr rfl⟩
 obtain ⟨x4, cp4, e4⟩ : ∃ x c, v4 = .slice x ks.length c := by
  rcases hrow.2 with ⟨rfl, e0⟩ | ⟨g, cap, cur, rfl, _⟩
  ·exact ⟨none, 0, by rw [e0]⟩
  ·exact ⟨_, _, rfl⟩
 subst e4
 clear hrow
 go_wp2_with fail
 go_loopw [12] (fun iv wr => ∃ (k : Nat) (v : Value), k ≤ ks.length ∧ iv = .int .i64 k ∧ wr.cell? ⟨w.heap.size + 1, 0, none⟩ = some v ∧ wr.cell? ⟨w.heap.size, 0, none⟩ = some (.slice none 0 0) ∧ wr.frozen? ⟨w.heap.size, 0, none⟩ = false ∧ wr.frozen? ⟨w.heap.size + 1, 0, none⟩ = false ∧ Hid (FR wr w4.heap.size v (outK L ks k)) ∧ Hid (w4.grownBy wr (some (w.heap.size + 1)))) (fun iv _ => ks.length - (intOf iv).toNat)
 case atStart => exact ⟨0, _, Nat.zero_le _, rfl, d3, d2, k2, k3, hid (World.ownsRow_nil _ _ _ _), hid ⟨rfl, rfl, rfl, Nat.le_refl _, fun _ _ _ => rfl⟩⟩
 case round =>
  clear d2 d3 k2 k3
  obtain ⟨k, v, hk, rfl, e3, e2, j2, j3, hfr, hgr⟩ := hrel
  by_cases hlt : k < ks.length
  ·have hcell : ∃ g, x4 = some ⟨g, 0, none⟩ ∧ ks.length ≤ cp4 ∧ cp4 ≤ 9223372036854775807 ∧ wr.cell? ⟨g, k, none⟩ = some (.int .i64 (ks.getD k 0)) := by
    rcases hkc.out with h | ⟨g, cap, e, hg, hg2, q1, q2, hc⟩
    ·omega
    ·injection e with e1 e2 e3
     subst e1 e3
     have hgn : some g ≠ some (w.heap.size + 1) := fun e => by injection e with e; omega
     exact ⟨g, rfl, q1, q2, hgr.out.cell (hc k hlt) hgn⟩
   obtain ⟨g, rfl, hq1, hq2, hck⟩ := hcell
   have hmem := HMem.out (ks.getD k 0) (by simp [List.getD, hlt])
   have HOK1 : Hid (outK L ks (k + 1) = outK L ks k ++ tag (ks.getD k 0) (L (ks.getD k 0))) := hid rfl
   have hol := outK_len HLL.out ks k
   obtain ⟨x, hx⟩ : ∃ x, ks.getD k 0 = x := ⟨_, rfl⟩
   rw [hx] at hmem hck HOK1
   have hwx : (Lit.int .i64 x).wf = true := wfI (by omega) (by omega)
   have gw : GrpR wr bm n D G L := HG4.out.gr hgr.out (fun e => by injection e with e; omega) (fun r g hg e => by injection e with e; have := HGlt.out r g hg; omega)
   have hlk := gw.look x hwx
   obtain ⟨xs, cs, eG, hss, hcs1, hcs2⟩ := row_slice (HG4.out.rows x)
   rw [eG] at hlk
   have hlen := HLL.out x
   obtain ⟨m, hm⟩ : ∃ m, (L x).length = m := ⟨_, rfl⟩
   have HSS := hid hss
   have HXS : Hid (∀ a, xs = some a → a.block < w.heap.size) := hid fun a ha => by
    have := HGlt.out x a.block (by rw [eG, ha]; rfl)
    exact this
   rw [hm] at hlk hcs1 hlen HSS
   have HM := hid hm
   have HX := hid hx
   clear gw eG hss hm hx hmem hwx
   go_wp2_with fail
   go_loopw [20] (fun iv wr2 => ∃ (t : Nat) (v2 : Value), t ≤ m ∧ iv = .int .i64 t ∧ wr2.cell? ⟨w.heap.size + 1, 0, none⟩ = some v2 ∧ wr2.cell? ⟨w.heap.size, 0, none⟩ = some (.slice none 0 0) ∧ wr2.frozen? ⟨w.heap.size, 0, none⟩ = false ∧ wr2.frozen? ⟨w.heap.size + 1, 0, none⟩ = false ∧ Hid (FR wr2 w4.heap.size v2 (outK L ks k ++ (tag x (L x)).take t)) ∧ Hid (w4.grownBy wr2 (some (w.heap.size + 1)))) (fun iv _ => m - (intOf iv).toNat)
   case atStart => exact ⟨0, v, Nat.zero_le _, rfl, e3, e2, j2, j3, hid (by simpa using hfr.out), hgr⟩
   case round =>
    clear e3 e2 hlk hfr hck j2 j3
    obtain ⟨t, v2, ht, rfl, e3, e2, j2, j3, hfr2, hgr2⟩ := hrel
    have zr := hgr2.out.size
    have hl2 : (outK L ks k ++ (tag x (L x)).take t).length ≤ 4000 * k + 4000 := by simp only [List.length_append, List.length_take]; omega
    obtain ⟨fl, hfl⟩ : ∃ fl, outK L ks k ++ (tag x (L x)).take t = fl := ⟨_, rfl⟩
    rw [hfl] at hfr2 hl2
    have HFL := hid hfl
    clear hfl
    by_cases htl : t < m
    ·have hcell : ∃ gs off, xs = some ⟨gs, off, none⟩ ∧ wr.cell? ⟨gs, off + t * 2, none⟩ = some (.int .i64 (sF (L x) t)) ∧ wr.cell? ⟨gs, off + t * 2 + 1, none⟩ = some (.int .i64 (sT (L x) t)) := by
      rcases HSS.out with h | ⟨gs, off, e, hg, hc⟩
      ·omega
      ·have h1 := HXS.out _ e
       have hgn : some gs ≠ some (w.heap.size + 1) := fun e => by injection e with e; have h1 : gs < w.heap.size := h1; omega
       exact ⟨gs, off, e, hgr2.out.cell (hc t htl).1 hgn, hgr2.out.cell (hc t htl).2 hgn⟩
     obtain ⟨gs, off, rfl, s0, s1⟩ := hcell
     have HTK := hid (tag_take (r := x) (l := L x) (t := t) (by have := HM.out; omega))
     obtain ⟨qf, hqf⟩ : ∃ q, sF (L x) t = q := ⟨_, rfl⟩
     obtain ⟨qt, hqt⟩ : ∃ q, sT (L x) t = q := ⟨_, rfl⟩
     rw [hqf] at s0 HTK
     rw [hqt] at s1 HTK
     clear hqf hqt
     obtain ⟨W5, hW5⟩ : ∃ W5, wr.alloc (.cells #[.int .i64 qf, .int .i64 qt] 135) = W5 := ⟨_, rfl⟩
     have b5 : Below wr.heap.size wr W5 := by rw [← hW5]; exact (Below.refl _ _).alloc (Nat.le_refl _) _
     have r0 : W5.cell? ⟨wr.heap.size, 0, none⟩ = some (.int .i64 qf) := by rw [← hW5]; simp
     have r1 : W5.cell? ⟨wr.heap.size, 1, none⟩ = some (.int .i64 qt) := by rw [← hW5]; simp
     have e35 := (b5.cell (p := ⟨w.heap.size + 1, 0, none⟩) (show w.heap.size + 1 < wr.heap.size by omega)).trans e3
     have HF5 : Hid (FR W5 w4.heap.size v2 fl) := by rw [← hW5]; exact World.ownsRow.alloc hfr2.out _
     have HG5 : Hid (w4.grownBy W5 (some (w.heap.size + 1))) := by rw [← hW5]; exact hid (hgr2.out.andThen (World.grownBy_alloc wr _ none) (fun j hj => by cases hj))
     have HE25 := hid ((b5.cell (p := ⟨w.heap.size, 0, none⟩) (show w.heap.size < wr.heap.size by omega)).trans e2)
     have HJ25 := hid (((bcell b5).2 w.heap.size 0 (by omega)).trans j2)
     have HJ35 := hid (((bcell b5).2 (w.heap.size + 1) 0 (by omega)).trans j3)
     have z5 := b5.size
     have hv2 : Hid (∀ g, v2.ownBlock = some g → w4.heap.size ≤ g) := hid fun g hg => (World.ownsRow.lt hfr2.out g hg).1
     clear b5 hfr2 hgr2 e2 j2 j3
     go_wp2_with (at_builtin; (try rw [hW5]); refine wpList_app_at rfl _ _ 32 rfl w4.heap.size 94 i0 _ 3 24 Tryz.underlying32 hi hz0 hz1 hz2 rfl (by decide) _ _ _ rfl (World.ownsRow.alloc HF5.out _) ⟨W5.heap.size, 0, none⟩ 1 1 [.int .i64 x, .int .i64 qf, .int .i64 qt] rfl rfl ?c1 ?c2 ?c3 ?c4 ?c5 ?_)
     case c1 => exact cell_three_new _ _ _ _ _
     case c2 => intro u hu; simp at hu; rcases hu with rfl | rfl | rfl <;> rfl
     case c3 => unfold maxLen; omega
     case c4 => omega
     case c5 => simp; omega
     intro v7 w7 hown7 hgr7 hloc7
     obtain ⟨y7, n7, c7, rfl⟩ := row_form hown7
     obtain ⟨v7, hv7⟩ : ∃ v7, v7 = Value.slice y7 n7 c7 := ⟨_, rfl⟩
     rw [← hv7] at hown7 hloc7
     have hbn : some (w.heap.size + 1) ≠ v2.ownBlock := fun e => by have := hv2.out _ e.symm; omega
     have hbn2 : some w.heap.size ≠ v2.ownBlock := fun e => by have := hv2.out _ e.symm; omega
     have b6 : Below W5.heap.size W5 (W5.alloc (.cells #[.int .i64 x, .int .i64 qf, .int .i64 qt] 94)) := (Below.refl _ _).alloc (Nat.le_refl _) _
     have e37 := hgr7.cell ((b6.cell (p := ⟨w.heap.size + 1, 0, none⟩) (show w.heap.size + 1 < W5.heap.size by omega)).trans e35) hbn
     have e27 := hgr7.cell ((b6.cell (p := ⟨w.heap.size, 0, none⟩) (show w.heap.size < W5.heap.size by omega)).trans HE25.out) hbn2
     have z7 := hgr7.size
     have z6 := b6.size
     have j37 : w7.frozen? ⟨w.heap.size + 1, 0, none⟩ = false := (World.frozen?_of_block (hgr7.block (w.heap.size + 1) (by omega) hbn)).trans (((bcell b6).2 (w.heap.size + 1) 0 (by omega)).trans HJ35.out)
     have j27 : w7.frozen? ⟨w.heap.size, 0, none⟩ = false := (World.frozen?_of_block (hgr7.block w.heap.size (by omega) hbn2)).trans (((bcell b6).2 w.heap.size 0 (by omega)).trans HJ25.out)
     have HF7 : Hid (FR w7 w4.heap.size v7 (outK L ks k ++ (tag x (L x)).take (t + 1))) := by
      rw [HTK.out, ← List.append_assoc, HFL.out]
      unfold FR
      rw [fCells_snoc, List.length_append]
      exact hid hown7
     have HG7 : Hid (w4.grownBy w7 (some (w.heap.size + 1))) := hid ((HG5.out.andThen (World.grownBy_alloc W5 _ none) (fun j hj => by cases hj)).andThen hgr7 (fun j hj => .inl (hv2.out j hj)))
     have HF8 : Hid (FR (w7.setCell ⟨w.heap.size + 1, 0, none⟩ v7) w4.heap.size v7 (outK L ks k ++ (tag x (L x)).take (t + 1))) := by
      refine hid ?_
      refine World.ownsRow.kept HF7.out (grownSet w7 ⟨w.heap.size + 1, 0, none⟩ v7) ?_
      cases e : v7.ownBlock with
      | none => exact .inl rfl
      | some g => exact .inr (fun e2 => by have := (World.ownsRow.lt HF7.out g e).1; injection e2 with e2; have e2 : g = w.heap.size + 1 := e2; omega)
     have HG8 : Hid (w4.grownBy (w7.setCell ⟨w.heap.size + 1, 0, none⟩ v7) (some (w.heap.size + 1))) := hid (HG7.out.andThen (grownSet w7 ⟨w.heap.size + 1, 0, none⟩ v7) (fun j hj => .inr hj))
     have k38 := World.cell?_setCell_same w7 ⟨w.heap.size + 1, 0, none⟩ v7 e37
     have k28 : (w7.setCell ⟨w.heap.size + 1, 0, none⟩ v7).cell? ⟨w.heap.size, 0, none⟩ = some (.slice none 0 0) := (World.cell?_setCell_far w7 ⟨w.heap.size + 1, 0, none⟩ ⟨w.heap.size, 0, none⟩ v7 (by show w.heap.size + 1 ≠ w.heap.size; omega)).trans e27
     have HK := hid (And.intro k38 k28)
     subst hv7
     clear hown7 hgr7 hloc7 e35 r0 r1 s0 s1 b6 e3 hW5 k38 k28 e27 HF7 HG7
     go_wp2_with fail
     go_roundw
     case rel => exact ⟨t + 1, _, htl, by go_num, HK.out.1, HK.out.2, by simpa using j27, by simpa using j37, HF8, HG8⟩
     case measure => simp [intOf]; omega
    ·obtain rfl : t = m := by omega
     have HF2 : Hid (FR wr w4.heap.size v2 (outK L ks (k + 1))) := by
      rw [HOK1.out]
      have h1 := hfr2.out
      rw [← HFL.out, List.take_of_length_le (by simp only [tag, List.length_map]; have := HM.out; omega)] at h1
      exact hid h1
     clear hfr2
     go_wp2_with fail
     go_roundw
     case rel => exact ⟨k + 1, v2, hlt, by go_num, e3, e2, j2, j3, HF2, hgr2⟩
     case measure => simp [intOf]; omega
  ·obtain rfl : k = ks.length := by omega
   obtain ⟨yv, nv, cv, rfl⟩ := row_form hfr.out
   have HF : Hid (FR (wr.setCell ⟨w.heap.size, 0, none⟩ (.slice yv nv cv)) w.heap.size (.slice yv nv cv) (outF L 8)) := by
    rw [HOF.out]
    have h1 := hfr.out
    have h2 : FR wr w.heap.size (.slice yv nv cv) (outK L ks ks.length) := by
     obtain ⟨q1, q2⟩ := h1
     refine ⟨q1, q2.imp id ?_⟩
     rintro ⟨g, cap, cur, e, hg, r⟩
     exact ⟨g, cap, cur, e, by omega, r⟩
    refine hid (World.ownsRow.kept h2 (grownSet wr ⟨w.heap.size, 0, none⟩ (.slice yv nv cv)) ?_)
    cases e : (Value.slice yv nv cv).ownBlock with
    | none => exact .inl rfl
    | some g => exact .inr (fun e2 => by have := (World.ownsRow.lt h1 g e).1; injection e2 with e2; have e2 : g = w.heap.size := e2; omega)
   have HB : Hid (Below w.heap.size w (wr.setCell ⟨w.heap.size, 0, none⟩ (.slice yv nv cv))) := hid ((HB4.out.grown hgr.out (by omega) (fun k hk => by injection hk with hk; omega)).setCell (p := ⟨w.heap.size, 0, none⟩) (Nat.le_refl _) (.slice yv nv cv))
   have k2 := World.cell?_setCell_same wr ⟨w.heap.size, 0, none⟩ (.slice yv nv cv) e2
   clear hfr
   go_wp2_with fail
   refine bodyPost_ret (v := .agg #[.slice yv nv cv]) (by simp [results, Tryz.results98, go_sem, k2]) rfl ⟨_, rfl, HF.out, HB.out⟩
def gR (l : List Rn) (i : Nat) : Rn := l.getD i (0, 0, 0)
def FS (w : World) (a : Option Addr) (l : List Rn) : Prop :=
 l.length = 0 ∨ ∃ g off, a = some ⟨g, off, none⟩ ∧ g < w.heap.size ∧ ∀ i, i < l.length → w.cell? ⟨g, off + i * 3, none⟩ = some (.int .i64 (gR l i).1) ∧ w.cell? ⟨g, off + i * 3 + 1, none⟩ = some (.int .i64 (gR l i).2.1) ∧ w.cell? ⟨g, off + i * 3 + 2, none⟩ = some (.int .i64 (gR l i).2.2)
theorem fr_cells {w : World} {B n cap g : Nat} {l : List Rn} (h : w.ownsRow B 94 3 (.slice (some ⟨g, 0, none⟩) n cap) n (fCells l)) (hl : l.length = n) :
  ∀ i, i < n → w.cell? ⟨g, i * 3, none⟩ = some (.int .i64 (gR l i).1) ∧ w.cell? ⟨g, i * 3 + 1, none⟩ = some (.int .i64 (gR l i).2.1) ∧ w.cell? ⟨g, i * 3 + 2, none⟩ = some (.int .i64 (gR l i).2.2) := by
 intro i hi
 have key : ∀ (l : List Rn) (i : Nat), i < l.length → (fCells l)[i * 3]? = some (.int .i64 (gR l i).1) ∧ (fCells l)[i * 3 + 1]? = some (.int .i64 (gR l i).2.1) ∧ (fCells l)[i * 3 + 2]? = some (.int .i64 (gR l i).2.2) := by
  intro l
  induction l with
  | nil => intro i hi; simp at hi
  | cons a l ih =>
   intro i hi
   cases i with
   | zero => simp [fCells, gR]
   | succ i =>
    have := ih i (by simpa using hi)
    have e : fCells (a :: l) = .int .i64 a.1 :: .int .i64 a.2.1 :: .int .i64 a.2.2 :: fCells l := by simp [fCells]
    rw [e, show (i + 1) * 3 = i * 3 + 1 + 1 + 1 from by omega]
    simpa [gR] using this
 rw [h.cellAt _ (by omega), h.cellAt _ (by omega), h.cellAt _ (by omega)]
 exact key l i (by omega)
theorem FR.fs {w : World} {B : Nat} {v : Value} {l : List Rn} (h : FR w B v l) : ∃ a c, v = .slice a l.length c ∧ FS w a l ∧ l.length ≤ c ∧ c ≤ 9223372036854775807 := by
 rcases h.2 with ⟨e, e0⟩ | ⟨g, cap, cur, e, hb, _, hnc, hcm, _⟩
 ·exact ⟨none, 0, by rw [e, e0], .inl e0, by omega, by omega⟩
 ·refine ⟨_, cap, e, .inr ⟨g, 0, rfl, (World.ownsRow.lt h g (by rw [e]; rfl)).2, fun i hi => ?_⟩, hnc, by unfold maxLen at hcm; omega⟩
  have h1 : w.ownsRow B 94 3 v l.length (fCells l) := h
  rw [e] at h1
  rw [Nat.zero_add]
  exact fr_cells h1 rfl i hi
theorem fCells_len (l : List Rn) : (fCells l).length = l.length * 3 := by
 induction l with
 | nil => rfl
 | cons a l ih => simp [fCells] at *; omega
theorem FS.rseg {w : World} {a : Option Addr} {l : List Rn} (h : FS w a l) : RSeg w a l.length (fun i => (gR l i).1) (fun i => (gR l i).2.1) (fun i => (gR l i).2.2) := h
theorem FR.gr {w w' : World} {B : Nat} {v : Value} {l : List Rn} {row : Option Nat} (h : FR w B v l) (hg : w.grownBy w' row) (hne : ∀ g, v.ownBlock = Option.some g → Option.some g ≠ row) : FR w' B v l :=
 World.ownsRow.kept h hg (by
  cases e : v.ownBlock with
  | none => exact .inl rfl
  | some g => exact .inr (hne g e))
theorem FR.below {w w' : World} {B : Nat} {v : Value} {l : List Rn} (h : FR w B v l) (hb : Below w.heap.size w w') : FR w' B v l :=
 h.gr (row := none) ⟨hb.os, hb.tape, hb.output, hb.size, fun k hk _ => hb.block k hk⟩ (by simp)
def stK (l : List Rn) (r : Rn) (k : Nat) : List Rn × Rn × List Rn := (l.take k).foldl insStep ([], r, [])
theorem stK_succ {l : List Rn} {r : Rn} {k : Nat} (h : k < l.length) : stK l r (k + 1) = insStep (stK l r k) (gR l k) := by
 unfold stK
 rw [List.take_add_one, List.foldl_append]
 simp [gR, List.getD, h]
theorem stK_all (l : List Rn) (r : Rn) : stK l r l.length = insSt l r := by unfold stK insSt; rw [List.take_length]
theorem stK_inv {l : List Rn} {r : Rn} (hl : FSrt l) (hr : Rok r) (k : Nat) : Inv (stK l r k) [] := by
 refine (Inv.fold (l.take k) _ ⟨⟨List.Pairwise.nil, (fun p hp => by cases hp)⟩, ⟨List.Pairwise.nil, (fun p hp => by cases hp)⟩, hr, (fun p hp => by cases hp), (fun p hp => by cases hp), (fun p hp => by cases hp), (fun p hp => by cases hp), ?_⟩).1
 exact ⟨List.Pairwise.sublist (List.take_sublist k l) hl.1, fun p hp => hl.2 p (List.mem_of_mem_take hp)⟩
theorem insStep_len (s : List Rn × Rn × List Rn) (q : Rn) : (insStep s q).1.length + (insStep s q).2.2.length ≤ s.1.length + s.2.2.length + 1 := by
 unfold insStep
 split
 ·simp; omega
 ·split
  ·simp; omega
  ·simp
theorem stK_len (l : List Rn) (r : Rn) : ∀ k, k ≤ l.length → (stK l r k).1.length + (stK l r k).2.2.length ≤ k
 | 0, _ => by simp [stK]
 | k + 1, h => by
  rw [stK_succ (by omega)]
  have := insStep_len (stK l r k) (gR l k)
  have := stK_len l r k (by omega)
  omega
theorem gR_mem {l : List Rn} {k : Nat} (h : k < l.length) : gR l k ∈ l := by simp [gR, List.getD, h]
theorem apartB_iff {r t r' f' f t' : Int} : apartB r t r' f' = true ↔ Apt (r, f, t) (r', f', t') := by unfold apartB Apt; simp
structure IL (w wr : World) (u5 u6 : Value) (sb : List Rn) (qr qf qt : Int) (sa : List Rn) : Prop where
 b : FR wr (w.heap.size + 1) u5 sb
 a : FR wr (w.heap.size + 1) u6 sa
 ne : ∀ g, u5.ownBlock = some g → u6.ownBlock ≠ some g
 nb : u5.ownBlock ≠ none
 na : u6.ownBlock ≠ none
 bel : Below w.heap.size w wr
 sz : w.heap.size + 1 ≤ wr.heap.size
 c0 : wr.cell? ⟨w.heap.size, 0, none⟩ = some (.int .i64 qr)
 c1 : wr.cell? ⟨w.heap.size, 1, none⟩ = some (.int .i64 qf)
 c2 : wr.cell? ⟨w.heap.size, 2, none⟩ = some (.int .i64 qt)
 f1 : wr.frozen? ⟨w.heap.size, 1, none⟩ = false
 f2 : wr.frozen? ⟨w.heap.size, 2, none⟩ = false
theorem IL.box5 {w wr : World} {u5 u6 : Value} {sb sa : List Rn} {qr qf qt : Int} (h : IL w wr u5 u6 sb qr qf qt sa) : some w.heap.size ≠ u5.ownBlock := fun e => by have := (World.ownsRow.lt h.b _ e.symm).1; omega
theorem IL.below {w wr w1 : World} {u5 u6 : Value} {sb sa : List Rn} {qr qf qt : Int} (h : IL w wr u5 u6 sb qr qf qt sa) (hb : Below wr.heap.size wr w1) : IL w w1 u5 u6 sb qr qf qt sa := by
 have hs := h.sz
 have hz := hb.size
 exact ⟨row_below h.b hb, row_below h.a hb, h.ne, h.nb, h.na, h.bel.trans (hb.mono (by omega)), by omega, (hb.cell (p := ⟨w.heap.size, 0, none⟩) (show w.heap.size < wr.heap.size by omega)).trans h.c0, (hb.cell (p := ⟨w.heap.size, 1, none⟩) (show w.heap.size < wr.heap.size by omega)).trans h.c1, (hb.cell (p := ⟨w.heap.size, 2, none⟩) (show w.heap.size < wr.heap.size by omega)).trans h.c2, ((bcell hb).2 w.heap.size 1 (by omega)).trans h.f1, ((bcell hb).2 w.heap.size 2 (by omega)).trans h.f2⟩
theorem IL.app5 {w wr w1 : World} {u5 u6 v : Value} {sb sa : List Rn} {qr qf qt : Int} (h : IL w wr u5 u6 sb qr qf qt sa) (p : Rn) (hown : w1.ownsRow (w.heap.size + 1) 94 3 v (sb.length + 1) (fCells sb ++ [.int .i64 p.1, .int .i64 p.2.1, .int .i64 p.2.2]))
  (hg : wr.grownBy w1 u5.ownBlock) (hloc : v.ownBlock = u5.ownBlock ∨ v.ownBlock = some wr.heap.size) : IL w w1 v u6 (sb ++ [p]) qr qf qt sa := by
 have hs := h.sz
 have hz := hg.size
 have hb5 := h.box5
 have hbk := hg.block w.heap.size (by omega) hb5
 refine ⟨?_, World.ownsRow.kept h.a hg ?_, fun g e1 e2 => ?_, ?_, h.na, h.bel.grown hg (by omega) (fun k hk => by have := (World.ownsRow.lt h.b k hk).1; omega), by omega, hg.cell h.c0 hb5, hg.cell h.c1 hb5, hg.cell h.c2 hb5, (World.frozen?_of_block hbk).trans h.f1, (World.frozen?_of_block hbk).trans h.f2⟩
 ·unfold FR; rw [fCells_snoc, List.length_append]; exact hown
 ·cases e : u6.ownBlock with
  | none => exact .inl rfl
  | some g => exact .inr (fun e2 => h.ne g e2.symm e)
 ·rcases hloc with hl | hl
  ·exact h.ne g (hl ▸ e1) e2
  ·rw [hl] at e1; injection e1 with e1
   have := (World.ownsRow.lt h.a g e2).2; omega
 ·rcases hloc with hl | hl
  ·rw [hl]; exact h.nb
  ·rw [hl]; simp
theorem IL.app6 {w wr w1 : World} {u5 u6 v : Value} {sb sa : List Rn} {qr qf qt : Int} (h : IL w wr u5 u6 sb qr qf qt sa) (p : Rn) (hown : w1.ownsRow (w.heap.size + 1) 94 3 v (sa.length + 1) (fCells sa ++ [.int .i64 p.1, .int .i64 p.2.1, .int .i64 p.2.2]))
  (hg : wr.grownBy w1 u6.ownBlock) (hloc : v.ownBlock = u6.ownBlock ∨ v.ownBlock = some wr.heap.size) : IL w w1 u5 v sb qr qf qt (sa ++ [p]) := by
 have h' : IL w wr u6 u5 sa qr qf qt sb := ⟨h.a, h.b, fun g e1 e2 => h.ne g e2 e1, h.na, h.nb, h.bel, h.sz, h.c0, h.c1, h.c2, h.f1, h.f2⟩
 have h2 := h'.app5 p hown hg hloc
 exact ⟨h2.a, h2.b, fun g e1 e2 => h2.ne g e2 e1, h2.na, h2.nb, h2.bel, h2.sz, h2.c0, h2.c1, h2.c2, h2.f1, h2.f2⟩
theorem IL.row_set {w wr : World} {v : Value} {l : List Rn} (h : FR wr (w.heap.size + 1) v l) (i : Nat) (u : Value) : FR (wr.setCell ⟨w.heap.size, i, none⟩ u) (w.heap.size + 1) v l := by
 refine World.ownsRow.kept h (grownSet wr ⟨w.heap.size, i, none⟩ u) ?_
 cases e : v.ownBlock with
 | none => exact .inl rfl
 | some g => exact .inr (fun e2 => by have := (World.ownsRow.lt h g e).1; injection e2 with e2; have e2 : g = w.heap.size := e2; omega)
theorem IL.set1 {w wr : World} {u5 u6 : Value} {sb sa : List Rn} {qr qf qt : Int} (h : IL w wr u5 u6 sb qr qf qt sa) (z : Int) : IL w (wr.setCell ⟨w.heap.size, 1, none⟩ (.int .i64 z)) u5 u6 sb qr z qt sa :=
 ⟨IL.row_set h.b _ _, IL.row_set h.a _ _, h.ne, h.nb, h.na, h.bel.setCell (p := ⟨w.heap.size, 1, none⟩) (Nat.le_refl _) _, by simpa using h.sz, (World.cell?_setCell_other _ _ _ _ (by simp)).trans h.c0, World.cell?_setCell_same _ _ _ h.c1, (World.cell?_setCell_other _ _ _ _ (by simp)).trans h.c2, by simpa using h.f1, by simpa using h.f2⟩
theorem IL.set2 {w wr : World} {u5 u6 : Value} {sb sa : List Rn} {qr qf qt : Int} (h : IL w wr u5 u6 sb qr qf qt sa) (z : Int) : IL w (wr.setCell ⟨w.heap.size, 2, none⟩ (.int .i64 z)) u5 u6 sb qr qf z sa :=
 ⟨IL.row_set h.b _ _, IL.row_set h.a _ _, h.ne, h.nb, h.na, h.bel.setCell (p := ⟨w.heap.size, 2, none⟩) (Nat.le_refl _) _, by simpa using h.sz, (World.cell?_setCell_other _ _ _ _ (by simp)).trans h.c0, (World.cell?_setCell_other _ _ _ _ (by simp)).trans h.c1, World.cell?_setCell_same _ _ _ h.c2, by simpa using h.f1, by simpa using h.f2⟩
theorem IL.drew {w wr : World} {u5 u6 : Value} {sb sa : List Rn} {qr qf qt : Int} (h : IL w wr u5 u6 sb qr qf qt sa) : IL w wr.drew u5 u6 sb qr qf qt sa := h.below (Below.refl _ _).drew
theorem fCells_one (l : List Rn) : ∀ u ∈ fCells l, u.oneCell' = true := by
 intro u hu
 unfold fCells at hu
 obtain ⟨p, _, h⟩ := List.mem_flatMap.1 hu
 simp at h
 rcases h with rfl | rfl | rfl <;> rfl
theorem fCells_append (l l' : List Rn) : fCells (l ++ l') = fCells l ++ fCells l' := by simp [fCells]
theorem specIns (a : Option Addr) (c : Nat) (l : List Rn) (rr rf rt : Int) (w : World) (hn : l.length ≤ 100000) (h : FS w a l) (hl : FSrt l) (hr : Rok (rr, rf, rt)) :
  Calls Tryz.prog 48 #[.slice a l.length c, .agg #[.int .i64 rr, .int .i64 rf, .int .i64 rt]] w fun e w' => ∃ v, e = .returned v ∧ FR w' w.heap.size v (ins l (rr, rf, rt)) ∧ Below w.heap.size w w' := by
 obtain ⟨i0, hi, hz0, hz1, hz2⟩ := info_parts Tryz.infoRun
 obtain ⟨st, hst⟩ : ∃ st, stK l (rr, rf, rt) = st := ⟨_, rfl⟩
 obtain ⟨n, hnn⟩ : ∃ n, l.length = n := ⟨_, rfl⟩
 have HI : Hid (∀ k, Inv (st k) []) := by rw [← hst]; exact hid (stK_inv hl hr)
 have HS : Hid (∀ k, k < n → st (k + 1) = insStep (st k) (gR l k)) := by rw [← hst, ← hnn]; exact hid fun k hk => stK_succ hk
 have HZ : Hid (st 0 = ([], (rr, rf, rt), [])) := by rw [← hst]; exact hid rfl
 have HE : Hid (ins l (rr, rf, rt) = (st n).1 ++ [(st n).2.1] ++ (st n).2.2) := by rw [← hst, ← hnn, stK_all]; exact hid rfl
 have HLn : Hid (∀ k, k ≤ n → (st k).1.length + (st k).2.2.length ≤ k) := by rw [← hst, ← hnn]; exact hid (stK_len l _)
 have HOK : Hid (∀ k, k < n → Rok (gR l k)) := by rw [← hnn]; exact hid fun k hk => hl.2 _ (gR_mem hk)
 have HFS : Hid (n = 0 ∨ ∃ g off, a = some ⟨g, off, none⟩ ∧ g < w.heap.size ∧ ∀ i, i < n → w.cell? ⟨g, off + i * 3, none⟩ = some (.int .i64 (gR l i).1) ∧ w.cell? ⟨g, off + i * 3 + 1, none⟩ = some (.int .i64 (gR l i).2.1) ∧ w.cell? ⟨g, off + i * 3 + 2, none⟩ = some (.int .i64 (gR l i).2.2)) := by rw [← hnn]; exact hid h
 rw [hnn] at hn ⊢
 clear hst hnn h hl
 obtain ⟨W0, hW0⟩ : ∃ W0, w.alloc (.cells #[.int .i64 rr, .int .i64 rf, .int .i64 rt] 94) = W0 := ⟨_, rfl⟩
 have z0 : W0.heap.size = w.heap.size + 1 := by rw [← hW0]; simp
 have HB0 : Hid (Below w.heap.size w W0) := by rw [← hW0]; exact hid ((Below.refl _ _).alloc (Nat.le_refl _) _)
 have x0 : W0.cell? ⟨w.heap.size, 0, none⟩ = some (.int .i64 rr) := by rw [← hW0]; simp
 have x1 : W0.cell? ⟨w.heap.size, 1, none⟩ = some (.int .i64 rf) := by rw [← hW0]; simp
 have x2 : W0.cell? ⟨w.heap.size, 2, none⟩ = some (.int .i64 rt) := by rw [← hW0]; simp
 have y1 : W0.frozen? ⟨w.heap.size, 1, none⟩ = false := by rw [← hW0]; simp
 have y2 : W0.frozen? ⟨w.heap.size, 2, none⟩ = false := by rw [← hW0]; simp
 go_enter Tryz.func48, Tryz.ntmps48
 go_wp2_with fail
 try rw [hW0]
 have HIL0 : Hid (IL w ((W0.alloc (.cells #[] 94)).alloc (.cells #[] 94)) (.slice (some ⟨w.heap.size + 1, 0, none⟩) 0 0) (.slice (some ⟨w.heap.size + 1 + 1, 0, none⟩) 0 0) [] rr rf rt []) := by
  refine hid ?_
  have b2 : Below W0.heap.size W0 ((W0.alloc (.cells #[] 94)).alloc (.cells #[] 94)) := below2 _ _ _
  have q1 := World.ownsRow_lit (base := w.heap.size + 1) (e := 94) (size := 3) W0 #[] 0 (by omega) (by unfold maxLen; omega) rfl
  have q2 := World.ownsRow_lit (base := w.heap.size + 1) (e := 94) (size := 3) (W0.alloc (.cells #[] 94)) #[] 0 (by simp; omega) (by unfold maxLen; omega) rfl
  have zz : (W0.alloc (.cells #[] 94)).heap.size = w.heap.size + 1 + 1 := by simp; omega
  rw [z0] at q1
  rw [zz] at q2
  refine ⟨World.ownsRow.alloc q1 _, q2, fun g e1 e2 => ?_, by simp [Value.ownBlock], by simp [Value.ownBlock], HB0.out.trans (b2.mono (by omega)), by simp; omega, (b2.cell (p := ⟨w.heap.size, 0, none⟩) (show w.heap.size < _ by omega)).trans x0, (b2.cell (p := ⟨w.heap.size, 1, none⟩) (show w.heap.size < _ by omega)).trans x1, (b2.cell (p := ⟨w.heap.size, 2, none⟩) (show w.heap.size < _ by omega)).trans x2, ((bcell b2).2 w.heap.size 1 (by omega)).trans y1, ((bcell b2).2 w.heap.size 2 (by omega)).trans y2⟩
  simp [Value.ownBlock] at e1 e2; omega
 clear x0 x1 x2 y1 y2 z0 hW0
 go_loopw [5, 6, 7] (fun u5 u6 iv wr => ∃ (k : Nat), k ≤ n ∧ iv = .int .i64 k ∧ Hid (IL w wr u5 u6 (st k).1 (st k).2.1.1 (st k).2.1.2.1 (st k).2.1.2.2 (st k).2.2)) (fun _ _ iv _ => n - (intOf iv).toNat)
 case atStart => exact ⟨0, Nat.zero_le _, rfl, by rw [HZ.out]; exact HIL0⟩
 case round =>
  clear HIL0
  obtain ⟨k, hk, rfl, hil⟩ := hrel
  have hinv := (HI.out k).r
  by_cases hlt : k < n
  ·have hstep := HS.out k hlt
   have hln := HLn.out k hk
   have hqo := HOK.out k hlt
   have hcell : ∃ g off, a = some ⟨g, off, none⟩ ∧ g < w.heap.size ∧ w.cell? ⟨g, off + k * 3, none⟩ = some (.int .i64 (gR l k).1) ∧ w.cell? ⟨g, off + k * 3 + 1, none⟩ = some (.int .i64 (gR l k).2.1) ∧ w.cell? ⟨g, off + k * 3 + 2, none⟩ = some (.int .i64 (gR l k).2.2) := by
    rcases HFS.out with h | ⟨g, off, e, hg, hc⟩
    ·omega
    ·exact ⟨g, off, e, hg, hc k hlt⟩
   obtain ⟨g, off, rfl, hg, p0, p1, p2⟩ := hcell
   generalize hsk : st k = sk at *
   obtain ⟨sb, ⟨qr, qf, qt⟩, sa⟩ := sk
   generalize hgk : gR l k = gk at *
   obtain ⟨pr, pf, pt⟩ := gk
   simp only at p0 p1 p2 hil hln
   unfold Rok at hinv hqo
   simp only at hinv hqo
   have HST := hid hstep
   have HP := hid (And.intro p0 (And.intro p1 p2))
   have e0 := (hil.out.bel.cell (p := ⟨g, off + k * 3, none⟩) hg).trans p0
   have e1 := (hil.out.bel.cell (p := ⟨g, off + k * 3 + 1, none⟩) hg).trans p1
   have e2 := (hil.out.bel.cell (p := ⟨g, off + k * 3 + 2, none⟩) hg).trans p2
   have c0 := hil.out.c0
   have c1 := hil.out.c1
   have c2 := hil.out.c2
   have zr := hil.out.sz
   have HK := hid hsk
   have HGK := hid hgk
   clear hstep hsk hgk p0 p1 p2
   go_wp2_with fail
   refine wp_region_held_drew (S := fun w' => w'.cell? ⟨g, off + k * 3, none⟩ = some (.int .i64 pr) ∧ w'.cell? ⟨g, off + k * 3 + 1, none⟩ = some (.int .i64 pf) ∧ w'.cell? ⟨g, off + k * 3 + 2, none⟩ = some (.int .i64 pt) ∧ w'.cell? ⟨w.heap.size, 0, none⟩ = some (.int .i64 qr) ∧ w'.cell? ⟨w.heap.size, 1, none⟩ = some (.int .i64 qf) ∧ w'.cell? ⟨w.heap.size, 2, none⟩ = some (.int .i64 qt)) (by kernel_rfl) ⟨e0, e1, e2, c0, c1, c2⟩ (fun hHeld => ?_)
   refine tk 0 16 ?_ (by kernel_rfl) (fun _ _ _ h => h) ?_ hHeld (tk 1 17 ?_ (by kernel_rfl) (fun _ _ _ h => h) ?_ hHeld (tk 2 18 ?_ (by kernel_rfl) (fun _ _ _ h => h) ?_ hHeld (tk 3 19 ?_ (by kernel_rfl) (fun _ _ _ h => h) ?_ hHeld (tk 4 20 ?_ (by kernel_rfl) (fun _ _ _ h => h) ?_ hHeld ?_))))
   iterate 5 (rotate_left; focus (intro o ho; simp only [gZa, gZb, gZc, gZd] at ho; subst ho; refine Or.inl ⟨by rfl, ?_⟩; intro w hSw; (try dsimp only at hSw); (try simp only [Act.put, sZa, sZb, sZc]); go_simp; try with_reducible rfl))
   try simp only [Act.put, sZa, sZb, sZc]
   refine call1 (i := 5) (d := some 21) (by kernel_rfl) (by kernel_rfl) ?_
   intro o ho hod K hK; simp only [gZa, gZb, gZc, gZd] at ho; subst ho
   go_simp
   refine (specApart pr pf pt qr qf qt _ (by omega) (by omega)).mono ?_
   rintro e w1 ⟨rfl, b1⟩
   have b1' : Below wr.heap.size wr w1 := (Below.refl _ wr).drew.trans b1
   have HIL1 := hid (hil.out.below b1')
   have z1 := b1'.size
   have s0 := (b1'.cell (p := ⟨g, off + k * 3, none⟩) (show g < wr.heap.size by omega)).trans e0
   have s1 := (b1'.cell (p := ⟨g, off + k * 3 + 1, none⟩) (show g < wr.heap.size by omega)).trans e1
   have s2 := (b1'.cell (p := ⟨g, off + k * 3 + 2, none⟩) (show g < wr.heap.size by omega)).trans e2
   have t0 := HIL1.out.c0
   have t1 := HIL1.out.c1
   have t2 := HIL1.out.c2
   refine hK.out _ _ ⟨s0, s1, s2, t0, t1, t2⟩ (fun hHeld => ?_)
   clear hK K
   try simp only [Act.put, sZa, sZb, sZc]
   refine wpAnyH_done (by kernel_rfl) ?_ _
   clear hHeld e0 e1 e2 c0 c1 c2 b1 b1' hil
   by_cases hA : Apt (pr, pf, pt) (qr, qf, qt)
   ·rw [show apartB pr pt qr qf = true from apartB_iff.2 hA]
    have HNX : Hid (st (k + 1) = (sb ++ [(pr, pf, pt)], (qr, qf, qt), sa)) := by
     refine hid ?_
     rw [HST.out]; unfold insStep; simp only; rw [if_pos hA]
    clear t0 t1 t2
    go_wp2_with (at_builtin; refine wpList_app_at rfl _ _ 32 rfl (w.heap.size + 1) 94 i0 _ 3 24 Tryz.underlying32 hi hz0 hz1 hz2 rfl (by decide) _ _ _ rfl (World.ownsRow.alloc HIL1.out.b _) ⟨w1.heap.size, 0, none⟩ 1 1 [.int .i64 pr, .int .i64 pf, .int .i64 pt] rfl rfl ?n1 ?n2 ?n3 ?n4 ?n5 ?_)
    try (case n1 => exact cell_three_new _ _ _ _ _)
    case n2 => first | exact ⟨rfl, rfl, rfl⟩ | (intro u hu; simp at hu; rcases hu with rfl | rfl | rfl <;> rfl)
    case n3 => unfold maxLen; omega
    case n4 => omega
    case n5 => first | omega | (simp; omega)
    intro v7 w7 hown7 hgr7 hloc7
    have HIL7 := hid ((HIL1.out.below ((Below.refl _ _).alloc (Nat.le_refl _) _)).app5 (pr, pf, pt) hown7 hgr7 (by simpa using hloc7))
    clear hown7 hgr7 hloc7 s0 s1 s2
    go_wp2_with fail
    go_roundw
    case rel => exact ⟨k + 1, hlt, by go_num, by rw [HNX.out]; exact HIL7⟩
    case measure => simp [intOf]; omega
   ·rw [show apartB pr pt qr qf = false from by rw [← Bool.not_eq_true]; exact fun h => hA (apartB_iff.1 h)]
    have HA := hid hA
    have v0 := t0
    have v1 := t1
    have v2 := t2
    go_wp2_with fail
    refine wp_region_held_drew (S := fun w' => w'.cell? ⟨g, off + k * 3, none⟩ = some (.int .i64 pr) ∧ w'.cell? ⟨g, off + k * 3 + 1, none⟩ = some (.int .i64 pf) ∧ w'.cell? ⟨g, off + k * 3 + 2, none⟩ = some (.int .i64 pt) ∧ w'.cell? ⟨w.heap.size, 0, none⟩ = some (.int .i64 qr) ∧ w'.cell? ⟨w.heap.size, 1, none⟩ = some (.int .i64 qf) ∧ w'.cell? ⟨w.heap.size, 2, none⟩ = some (.int .i64 qt)) (by kernel_rfl) ⟨s0, s1, s2, v0, v1, v2⟩ (fun hHeld => ?_)
    refine tk 0 29 ?_ (by kernel_rfl) (fun _ _ _ h => h) ?_ hHeld (tk 1 30 ?_ (by kernel_rfl) (fun _ _ _ h => h) ?_ hHeld (tk 2 31 ?_ (by kernel_rfl) (fun _ _ _ h => h) ?_ hHeld (tk 3 32 ?_ (by kernel_rfl) (fun _ _ _ h => h) ?_ hHeld (tk 4 33 ?_ (by kernel_rfl) (fun _ _ _ h => h) ?_ hHeld ?_))))
    iterate 5 (rotate_left; focus (intro o ho; simp only [gZa, gZb, gZc, gZd] at ho; subst ho; refine Or.inl ⟨by rfl, ?_⟩; intro w hSw; (try dsimp only at hSw); (try simp only [Act.put, sZa, sZb, sZc]); go_simp; try with_reducible rfl))
    try simp only [Act.put, sZa, sZb, sZc]
    refine call1 (i := 5) (d := some 34) (by kernel_rfl) (by kernel_rfl) ?_
    intro o ho hod K hK; simp only [gZa, gZb, gZc, gZd] at ho; subst ho
    go_simp
    refine (specApart qr qf qt pr pf pt _ (by omega) (by omega)).mono ?_
    rintro e w2 ⟨rfl, b2⟩
    have b2' : Below w1.heap.size w1 w2 := (Below.refl _ w1).drew.trans b2
    have HIL2 := hid (HIL1.out.below b2')
    have z2 := b2'.size
    have s0' := (b2'.cell (p := ⟨g, off + k * 3, none⟩) (show g < w1.heap.size by omega)).trans s0
    have s1' := (b2'.cell (p := ⟨g, off + k * 3 + 1, none⟩) (show g < w1.heap.size by omega)).trans s1
    have s2' := (b2'.cell (p := ⟨g, off + k * 3 + 2, none⟩) (show g < w1.heap.size by omega)).trans s2
    have t0' := HIL2.out.c0
    have t1' := HIL2.out.c1
    have t2' := HIL2.out.c2
    refine hK.out _ _ ⟨s0', s1', s2', t0', t1', t2'⟩ (fun hHeld => ?_)
    clear hK K
    try simp only [Act.put, sZa, sZb, sZc]
    refine wpAnyH_done (by kernel_rfl) ?_ _
    clear hHeld b2 b2' s0 s1 s2 t0 t1 t2 v0 v1 v2 HIL1
    by_cases hB : Apt (qr, qf, qt) (pr, pf, pt)
    ·rw [show apartB qr qt pr pf = true from apartB_iff.2 hB]
     have HNX : Hid (st (k + 1) = (sb, (qr, qf, qt), sa ++ [(pr, pf, pt)])) := by
      refine hid ?_
      rw [HST.out]; unfold insStep; simp only; rw [if_neg HA.out, if_pos hB]
     clear t0' t1' t2'
     go_wp2_with (at_builtin; refine wpList_app_at rfl _ _ 32 rfl (w.heap.size + 1) 94 i0 _ 3 24 Tryz.underlying32 hi hz0 hz1 hz2 rfl (by decide) _ _ _ rfl (World.ownsRow.alloc HIL2.out.a _) ⟨w2.heap.size, 0, none⟩ 1 1 [.int .i64 pr, .int .i64 pf, .int .i64 pt] rfl rfl ?m1 ?m2 ?m3 ?m4 ?m5 ?_)
     try (case m1 => exact cell_three_new _ _ _ _ _)
     case m2 => first | exact ⟨rfl, rfl, rfl⟩ | (intro u hu; simp at hu; rcases hu with rfl | rfl | rfl <;> rfl)
     case m3 => unfold maxLen; omega
     case m4 => omega
     case m5 => first | omega | (simp; omega)
     intro v7 w7 hown7 hgr7 hloc7
     have HIL7 := hid ((HIL2.out.below ((Below.refl _ _).alloc (Nat.le_refl _) _)).app6 (pr, pf, pt) hown7 hgr7 (by simpa using hloc7))
     clear hown7 hgr7 hloc7 s0' s1' s2'
     go_wp2_with fail
     go_roundw
     case rel => exact ⟨k + 1, hlt, by go_num, by rw [HNX.out]; exact HIL7⟩
     case measure => simp [intOf]; omega
    ·rw [show apartB qr qt pr pf = false from by rw [← Bool.not_eq_true]; exact fun h => hB (apartB_iff.1 h)]
     have HNX : Hid (st (k + 1) = (sb, (qr, min pf qf, max pt qt), sa)) := by
      refine hid ?_
      rw [HST.out]; unfold insStep; simp only; rw [if_neg HA.out, if_neg hB]
     have HF1 := hid HIL2.out.f1
     have HF2 := hid HIL2.out.f2
     clear hB
     have hgw : g ≠ w.heap.size := by omega
     by_cases h1 : pf < qf
     ·by_cases h2 : qt < pt
      ·have d1 : decide (pf < qf) = true := by simp; exact h1
       have HMN : Hid (min pf qf = pf) := hid (by omega)
       have d2 : decide (qt < pt) = true := by simp; exact h2
       have HMX : Hid (max pt qt = pt) := hid (by omega)
       clear h1 h2
       go_wp2_with fail
       refine wp_region_held_drew (S := fun w' => w'.cell? ⟨g, off + k * 3 + 1, none⟩ = some (.int .i64 pf) ∧ w'.cell? ⟨w.heap.size, 1, none⟩ = some (.int .i64 qf)) (by kernel_rfl) ⟨s1', t1'⟩ (fun hHeld => ?_)
       refine tk 0 42 ?_ (by kernel_rfl) (fun _ _ _ h => h) ?_ hHeld (tk 1 43 ?_ (by kernel_rfl) (fun _ _ _ h => h) ?_ hHeld (tk 2 44 ?_ (by kernel_rfl) (fun _ _ _ h => h) ?_ hHeld (tk 3 45 ?_ (by kernel_rfl) (fun _ _ _ h => h) ?_ hHeld (tk 4 46 ?_ (by kernel_rfl) (fun _ _ _ h => h) ?_ hHeld ?_))))
       iterate 5 (rotate_left; focus (intro o ho; simp only [gZa, gZb, gZc, gZd] at ho; subst ho; refine Or.inl ⟨by rfl, ?_⟩; intro w hSw; (try dsimp only at hSw); (try simp only [Act.put, sZa, sZb, sZc]); go_simp; try with_reducible rfl))
       try simp only [Act.put, sZa, sZb, sZc]
       refine tk 5 47 ?_ (by kernel_rfl) (fun _ _ _ h => h) ?_ hHeld (tk 6 48 ?_ (by kernel_rfl) (fun _ _ _ h => h) ?_ hHeld (tk 7 49 ?_ (by kernel_rfl) (fun _ _ _ h => h) ?_ hHeld ?_))
       iterate 3 (rotate_left; focus (intro o ho; simp only [gZa, gZb, gZc, gZd] at ho; subst ho; refine Or.inl ⟨by rfl, ?_⟩; intro w hSw; (try dsimp only at hSw); (try simp only [Act.put, sZa, sZb, sZc]); go_simp; try with_reducible rfl))
       try simp only [Act.put, sZa, sZb, sZc]
       refine wpAnyH_done (by kernel_rfl) ?_ _
       clear hHeld
       have f1 := HF1.out
       obtain ⟨W3, hW3⟩ : ∃ W3, (w2.setCell ⟨w.heap.size, 1, none⟩ (.int .i64 pf)).drew = W3 := ⟨_, rfl⟩
       have HIL3 : Hid (IL w W3 u5 u6 sb qr pf qt sa) := by rw [← hW3]; exact hid (HIL2.out.set1 pf).drew
       have r2 : W3.cell? ⟨g, off + k * 3 + 2, none⟩ = some (.int .i64 pt) := by rw [← hW3]; exact (World.cell?_setCell_far w2 ⟨w.heap.size, 1, none⟩ _ _ (fun e => hgw e.symm)).trans s2'
       go_wp2_with fail
       try rw [hW3]
       try clear f1 hW3
       have t3 := HIL3.out.c2
       refine wp_region_held_drew (S := fun w' => w'.cell? ⟨g, off + k * 3 + 2, none⟩ = some (.int .i64 pt) ∧ w'.cell? ⟨w.heap.size, 2, none⟩ = some (.int .i64 qt)) (by kernel_rfl) ⟨r2, t3⟩ (fun hHeld => ?_)
       refine tk 0 56 ?_ (by kernel_rfl) (fun _ _ _ h => h) ?_ hHeld (tk 1 57 ?_ (by kernel_rfl) (fun _ _ _ h => h) ?_ hHeld (tk 2 58 ?_ (by kernel_rfl) (fun _ _ _ h => h) ?_ hHeld (tk 3 59 ?_ (by kernel_rfl) (fun _ _ _ h => h) ?_ hHeld (tk 4 60 ?_ (by kernel_rfl) (fun _ _ _ h => h) ?_ hHeld ?_))))
       iterate 5 (rotate_left; focus (intro o ho; simp only [gZa, gZb, gZc, gZd] at ho; subst ho; refine Or.inl ⟨by rfl, ?_⟩; intro w hSw; (try dsimp only at hSw); (try simp only [Act.put, sZa, sZb, sZc]); go_simp; try with_reducible rfl))
       try simp only [Act.put, sZa, sZb, sZc]
       refine tk 5 61 ?_ (by kernel_rfl) (fun _ _ _ h => h) ?_ hHeld (tk 6 62 ?_ (by kernel_rfl) (fun _ _ _ h => h) ?_ hHeld (tk 7 63 ?_ (by kernel_rfl) (fun _ _ _ h => h) ?_ hHeld ?_))
       iterate 3 (rotate_left; focus (intro o ho; simp only [gZa, gZb, gZc, gZd] at ho; subst ho; refine Or.inl ⟨by rfl, ?_⟩; intro w hSw; (try dsimp only at hSw); (try simp only [Act.put, sZa, sZb, sZc]); go_simp; try with_reducible rfl))
       try simp only [Act.put, sZa, sZb, sZc]
       refine wpAnyH_done (by kernel_rfl) ?_ _
       clear hHeld
       have f2 := HIL3.out.f2
       obtain ⟨W4, hW4⟩ : ∃ W4, (W3.setCell ⟨w.heap.size, 2, none⟩ (.int .i64 pt)).drew = W4 := ⟨_, rfl⟩
       have HIL4 : Hid (IL w W4 u5 u6 sb qr pf pt sa) := by rw [← hW4]; exact hid (HIL3.out.set2 pt).drew
       go_wp2_with fail
       try rw [hW4]
       try clear f2 hW4
       go_roundw
       case rel => exact ⟨k + 1, hlt, by go_num, by rw [HNX.out, HMN.out, HMX.out]; exact HIL4⟩
       case measure => simp [intOf]; omega
      ·have d1 : decide (pf < qf) = true := by simp; exact h1
       have HMN : Hid (min pf qf = pf) := hid (by omega)
       have d2 : decide (qt < pt) = false := by simp; omega
       have HMX : Hid (max pt qt = qt) := hid (by omega)
       clear h1 h2
       go_wp2_with fail
       refine wp_region_held_drew (S := fun w' => w'.cell? ⟨g, off + k * 3 + 1, none⟩ = some (.int .i64 pf) ∧ w'.cell? ⟨w.heap.size, 1, none⟩ = some (.int .i64 qf)) (by kernel_rfl) ⟨s1', t1'⟩ (fun hHeld => ?_)
       refine tk 0 42 ?_ (by kernel_rfl) (fun _ _ _ h => h) ?_ hHeld (tk 1 43 ?_ (by kernel_rfl) (fun _ _ _ h => h) ?_ hHeld (tk 2 44 ?_ (by kernel_rfl) (fun _ _ _ h => h) ?_ hHeld (tk 3 45 ?_ (by kernel_rfl) (fun _ _ _ h => h) ?_ hHeld (tk 4 46 ?_ (by kernel_rfl) (fun _ _ _ h => h) ?_ hHeld ?_))))
       iterate 5 (rotate_left; focus (intro o ho; simp only [gZa, gZb, gZc, gZd] at ho; subst ho; refine Or.inl ⟨by rfl, ?_⟩; intro w hSw; (try dsimp only at hSw); (try simp only [Act.put, sZa, sZb, sZc]); go_simp; try with_reducible rfl))
       try simp only [Act.put, sZa, sZb, sZc]
       refine tk 5 47 ?_ (by kernel_rfl) (fun _ _ _ h => h) ?_ hHeld (tk 6 48 ?_ (by kernel_rfl) (fun _ _ _ h => h) ?_ hHeld (tk 7 49 ?_ (by kernel_rfl) (fun _ _ _ h => h) ?_ hHeld ?_))
       iterate 3 (rotate_left; focus (intro o ho; simp only [gZa, gZb, gZc, gZd] at ho; subst ho; refine Or.inl ⟨by rfl, ?_⟩; intro w hSw; (try dsimp only at hSw); (try simp only [Act.put, sZa, sZb, sZc]); go_simp; try with_reducible rfl))
       try simp only [Act.put, sZa, sZb, sZc]
       refine wpAnyH_done (by kernel_rfl) ?_ _
       clear hHeld
       have f1 := HF1.out
       obtain ⟨W3, hW3⟩ : ∃ W3, (w2.setCell ⟨w.heap.size, 1, none⟩ (.int .i64 pf)).drew = W3 := ⟨_, rfl⟩
       have HIL3 : Hid (IL w W3 u5 u6 sb qr pf qt sa) := by rw [← hW3]; exact hid (HIL2.out.set1 pf).drew
       have r2 : W3.cell? ⟨g, off + k * 3 + 2, none⟩ = some (.int .i64 pt) := by rw [← hW3]; exact (World.cell?_setCell_far w2 ⟨w.heap.size, 1, none⟩ _ _ (fun e => hgw e.symm)).trans s2'
       go_wp2_with fail
       try rw [hW3]
       try clear f1 hW3
       have t3 := HIL3.out.c2
       refine wp_region_held_drew (S := fun w' => w'.cell? ⟨g, off + k * 3 + 2, none⟩ = some (.int .i64 pt) ∧ w'.cell? ⟨w.heap.size, 2, none⟩ = some (.int .i64 qt)) (by kernel_rfl) ⟨r2, t3⟩ (fun hHeld => ?_)
       refine tk 0 56 ?_ (by kernel_rfl) (fun _ _ _ h => h) ?_ hHeld (tk 1 57 ?_ (by kernel_rfl) (fun _ _ _ h => h) ?_ hHeld (tk 2 58 ?_ (by kernel_rfl) (fun _ _ _ h => h) ?_ hHeld (tk 3 59 ?_ (by kernel_rfl) (fun _ _ _ h => h) ?_ hHeld (tk 4 60 ?_ (by kernel_rfl) (fun _ _ _ h => h) ?_ hHeld ?_))))
       iterate 5 (rotate_left; focus (intro o ho; simp only [gZa, gZb, gZc, gZd] at ho; subst ho; refine Or.inl ⟨by rfl, ?_⟩; intro w hSw; (try dsimp only at hSw); (try simp only [Act.put, sZa, sZb, sZc]); go_simp; try with_reducible rfl))
       try simp only [Act.put, sZa, sZb, sZc]
       refine tk 5 61 ?_ (by kernel_rfl) (fun _ _ _ h => h) ?_ hHeld (tk 6 62 ?_ (by kernel_rfl) (fun _ _ _ h => h) ?_ hHeld (tk 7 63 ?_ (by kernel_rfl) (fun _ _ _ h => h) ?_ hHeld ?_))
       iterate 3 (rotate_left; focus (intro o ho; simp only [gZa, gZb, gZc, gZd] at ho; subst ho; refine Or.inl ⟨by rfl, ?_⟩; intro w hSw; (try dsimp only at hSw); (try simp only [Act.put, sZa, sZb, sZc]); go_simp; try with_reducible rfl))
       try simp only [Act.put, sZa, sZb, sZc]
       refine wpAnyH_done (by kernel_rfl) ?_ _
       clear hHeld
       obtain ⟨W4, hW4⟩ : ∃ W4, W3.drew = W4 := ⟨_, rfl⟩
       have HIL4 : Hid (IL w W4 u5 u6 sb qr pf qt sa) := by rw [← hW4]; exact hid HIL3.out.drew
       go_wp2_with fail
       try rw [hW4]
       try clear hW4
       go_roundw
       case rel => exact ⟨k + 1, hlt, by go_num, by rw [HNX.out, HMN.out, HMX.out]; exact HIL4⟩
       case measure => simp [intOf]; omega
     ·by_cases h2 : qt < pt
      ·have d1 : decide (pf < qf) = false := by simp; omega
       have HMN : Hid (min pf qf = qf) := hid (by omega)
       have d2 : decide (qt < pt) = true := by simp; exact h2
       have HMX : Hid (max pt qt = pt) := hid (by omega)
       clear h1 h2
       go_wp2_with fail
       refine wp_region_held_drew (S := fun w' => w'.cell? ⟨g, off + k * 3 + 1, none⟩ = some (.int .i64 pf) ∧ w'.cell? ⟨w.heap.size, 1, none⟩ = some (.int .i64 qf)) (by kernel_rfl) ⟨s1', t1'⟩ (fun hHeld => ?_)
       refine tk 0 42 ?_ (by kernel_rfl) (fun _ _ _ h => h) ?_ hHeld (tk 1 43 ?_ (by kernel_rfl) (fun _ _ _ h => h) ?_ hHeld (tk 2 44 ?_ (by kernel_rfl) (fun _ _ _ h => h) ?_ hHeld (tk 3 45 ?_ (by kernel_rfl) (fun _ _ _ h => h) ?_ hHeld (tk 4 46 ?_ (by kernel_rfl) (fun _ _ _ h => h) ?_ hHeld ?_))))
       iterate 5 (rotate_left; focus (intro o ho; simp only [gZa, gZb, gZc, gZd] at ho; subst ho; refine Or.inl ⟨by rfl, ?_⟩; intro w hSw; (try dsimp only at hSw); (try simp only [Act.put, sZa, sZb, sZc]); go_simp; try with_reducible rfl))
       try simp only [Act.put, sZa, sZb, sZc]
       refine tk 5 47 ?_ (by kernel_rfl) (fun _ _ _ h => h) ?_ hHeld (tk 6 48 ?_ (by kernel_rfl) (fun _ _ _ h => h) ?_ hHeld (tk 7 49 ?_ (by kernel_rfl) (fun _ _ _ h => h) ?_ hHeld ?_))
       iterate 3 (rotate_left; focus (intro o ho; simp only [gZa, gZb, gZc, gZd] at ho; subst ho; refine Or.inl ⟨by rfl, ?_⟩; intro w hSw; (try dsimp only at hSw); (try simp only [Act.put, sZa, sZb, sZc]); go_simp; try with_reducible rfl))
       try simp only [Act.put, sZa, sZb, sZc]
       refine wpAnyH_done (by kernel_rfl) ?_ _
       clear hHeld
       obtain ⟨W3, hW3⟩ : ∃ W3, w2.drew = W3 := ⟨_, rfl⟩
       have HIL3 : Hid (IL w W3 u5 u6 sb qr qf qt sa) := by rw [← hW3]; exact hid HIL2.out.drew
       have r2 : W3.cell? ⟨g, off + k * 3 + 2, none⟩ = some (.int .i64 pt) := by rw [← hW3]; exact s2'
       go_wp2_with fail
       try rw [hW3]
       try clear hW3
       have t3 := HIL3.out.c2
       refine wp_region_held_drew (S := fun w' => w'.cell? ⟨g, off + k * 3 + 2, none⟩ = some (.int .i64 pt) ∧ w'.cell? ⟨w.heap.size, 2, none⟩ = some (.int .i64 qt)) (by kernel_rfl) ⟨r2, t3⟩ (fun hHeld => ?_)
       refine tk 0 56 ?_ (by kernel_rfl) (fun _ _ _ h => h) ?_ hHeld (tk 1 57 ?_ (by kernel_rfl) (fun _ _ _ h => h) ?_ hHeld (tk 2 58 ?_ (by kernel_rfl) (fun _ _ _ h => h) ?_ hHeld (tk 3 59 ?_ (by kernel_rfl) (fun _ _ _ h => h) ?_ hHeld (tk 4 60 ?_ (by kernel_rfl) (fun _ _ _ h => h) ?_ hHeld ?_))))
       iterate 5 (rotate_left; focus (intro o ho; simp only [gZa, gZb, gZc, gZd] at ho; subst ho; refine Or.inl ⟨by rfl, ?_⟩; intro w hSw; (try dsimp only at hSw); (try simp only [Act.put, sZa, sZb, sZc]); go_simp; try with_reducible rfl))
       try simp only [Act.put, sZa, sZb, sZc]
       refine tk 5 61 ?_ (by kernel_rfl) (fun _ _ _ h => h) ?_ hHeld (tk 6 62 ?_ (by kernel_rfl) (fun _ _ _ h => h) ?_ hHeld (tk 7 63 ?_ (by kernel_rfl) (fun _ _ _ h => h) ?_ hHeld ?_))
       iterate 3 (rotate_left; focus (intro o ho; simp only [gZa, gZb, gZc, gZd] at ho; subst ho; refine Or.inl ⟨by rfl, ?_⟩; intro w hSw; (try dsimp only at hSw); (try simp only [Act.put, sZa, sZb, sZc]); go_simp; try with_reducible rfl))
       try simp only [Act.put, sZa, sZb, sZc]
       refine wpAnyH_done (by kernel_rfl) ?_ _
       clear hHeld
       have f2 := HIL3.out.f2
       obtain ⟨W4, hW4⟩ : ∃ W4, (W3.setCell ⟨w.heap.size, 2, none⟩ (.int .i64 pt)).drew = W4 := ⟨_, rfl⟩
       have HIL4 : Hid (IL w W4 u5 u6 sb qr qf pt sa) := by rw [← hW4]; exact hid (HIL3.out.set2 pt).drew
       go_wp2_with fail
       try rw [hW4]
       try clear f2 hW4
       go_roundw
       case rel => exact ⟨k + 1, hlt, by go_num, by rw [HNX.out, HMN.out, HMX.out]; exact HIL4⟩
       case measure => simp [intOf]; omega
      ·have d1 : decide (pf < qf) = false := by simp; omega
       have HMN : Hid (min pf qf = qf) := hid (by omega)
       have d2 : decide (qt < pt) = false := by simp; omega
       have HMX : Hid (max pt qt = qt) := hid (by omega)
       clear h1 h2
       go_wp2_with fail
       refine wp_region_held_drew (S := fun w' => w'.cell? ⟨g, off + k * 3 + 1, none⟩ = some (.int .i64 pf) ∧ w'.cell? ⟨w.heap.size, 1, none⟩ = some (.int .i64 qf)) (by kernel_rfl) ⟨s1', t1'⟩ (fun hHeld => ?_)
       refine tk 0 42 ?_ (by kernel_rfl) (fun _ _ _ h => h) ?_ hHeld (tk 1 43 ?_ (by kernel_rfl) (fun _ _ _ h => h) ?_ hHeld (tk 2 44 ?_ (by kernel_rfl) (fun _ _ _ h => h) ?_ hHeld (tk 3 45 ?_ (by kernel_rfl) (fun _ _ _ h => h) ?_ hHeld (tk 4 46 ?_ (by kernel_rfl) (fun _ _ _ h => h) ?_ hHeld ?_))))
       iterate 5 (rotate_left; focus (intro o ho; simp only [gZa, gZb, gZc, gZd] at ho; subst ho; refine Or.inl ⟨by rfl, ?_⟩; intro w hSw; (try dsimp only at hSw); (try simp only [Act.put, sZa, sZb, sZc]); go_simp; try with_reducible rfl))
       try simp only [Act.put, sZa, sZb, sZc]
       refine tk 5 47 ?_ (by kernel_rfl) (fun _ _ _ h => h) ?_ hHeld (tk 6 48 ?_ (by kernel_rfl) (fun _ _ _ h => h) ?_ hHeld (tk 7 49 ?_ (by kernel_rfl) (fun _ _ _ h => h) ?_ hHeld ?_))
       iterate 3 (rotate_left; focus (intro o ho; simp only [gZa, gZb, gZc, gZd] at ho; subst ho; refine Or.inl ⟨by rfl, ?_⟩; intro w hSw; (try dsimp only at hSw); (try simp only [Act.put, sZa, sZb, sZc]); go_simp; try with_reducible rfl))
       try simp only [Act.put, sZa, sZb, sZc]
       refine wpAnyH_done (by kernel_rfl) ?_ _
       clear hHeld
       obtain ⟨W3, hW3⟩ : ∃ W3, w2.drew = W3 := ⟨_, rfl⟩
       have HIL3 : Hid (IL w W3 u5 u6 sb qr qf qt sa) := by rw [← hW3]; exact hid HIL2.out.drew
       have r2 : W3.cell? ⟨g, off + k * 3 + 2, none⟩ = some (.int .i64 pt) := by rw [← hW3]; exact s2'
       go_wp2_with fail
       try rw [hW3]
       try clear hW3
       have t3 := HIL3.out.c2
       refine wp_region_held_drew (S := fun w' => w'.cell? ⟨g, off + k * 3 + 2, none⟩ = some (.int .i64 pt) ∧ w'.cell? ⟨w.heap.size, 2, none⟩ = some (.int .i64 qt)) (by kernel_rfl) ⟨r2, t3⟩ (fun hHeld => ?_)
       refine tk 0 56 ?_ (by kernel_rfl) (fun _ _ _ h => h) ?_ hHeld (tk 1 57 ?_ (by kernel_rfl) (fun _ _ _ h => h) ?_ hHeld (tk 2 58 ?_ (by kernel_rfl) (fun _ _ _ h => h) ?_ hHeld (tk 3 59 ?_ (by kernel_rfl) (fun _ _ _ h => h) ?_ hHeld (tk 4 60 ?_ (by kernel_rfl) (fun _ _ _ h => h) ?_ hHeld ?_))))
       iterate 5 (rotate_left; focus (intro o ho; simp only [gZa, gZb, gZc, gZd] at ho; subst ho; refine Or.inl ⟨by rfl, ?_⟩; intro w hSw; (try dsimp only at hSw); (try simp only [Act.put, sZa, sZb, sZc]); go_simp; try with_reducible rfl))
       try simp only [Act.put, sZa, sZb, sZc]
       refine tk 5 61 ?_ (by kernel_rfl) (fun _ _ _ h => h) ?_ hHeld (tk 6 62 ?_ (by kernel_rfl) (fun _ _ _ h => h) ?_ hHeld (tk 7 63 ?_ (by kernel_rfl) (fun _ _ _ h => h) ?_ hHeld ?_))
       iterate 3 (rotate_left; focus (intro o ho; simp only [gZa, gZb, gZc, gZd] at ho; subst ho; refine Or.inl ⟨by rfl, ?_⟩; intro w hSw; (try dsimp only at hSw); (try simp only [Act.put, sZa, sZb, sZc]); go_simp; try with_reducible rfl))
       try simp only [Act.put, sZa, sZb, sZc]
       refine wpAnyH_done (by kernel_rfl) ?_ _
       clear hHeld
       obtain ⟨W4, hW4⟩ : ∃ W4, W3.drew = W4 := ⟨_, rfl⟩
       have HIL4 : Hid (IL w W4 u5 u6 sb qr qf qt sa) := by rw [← hW4]; exact hid HIL3.out.drew
       go_wp2_with fail
       try rw [hW4]
       try clear hW4
       go_roundw
       case rel => exact ⟨k + 1, hlt, by go_num, by rw [HNX.out, HMN.out, HMX.out]; exact HIL4⟩
       case measure => simp [intOf]; omega
  ·obtain rfl : k = n := by omega
   have hln := HLn.out k (Nat.le_refl _)
   generalize hsk : st k = sk at *
   obtain ⟨sb, ⟨qr, qf, qt⟩, sa⟩ := sk
   simp only at hil hln
   have c0 := hil.out.c0
   have c1 := hil.out.c1
   have c2 := hil.out.c2
   have zr := hil.out.sz
   clear hsk hinv
   go_wp2_with (at_builtin; refine wpList_app_at rfl _ _ 32 rfl (w.heap.size + 1) 94 i0 _ 3 24 Tryz.underlying32 hi hz0 hz1 hz2 rfl (by decide) _ _ _ rfl (World.ownsRow.alloc hil.out.b _) ⟨wr.heap.size, 0, none⟩ 1 1 [.int .i64 qr, .int .i64 qf, .int .i64 qt] rfl rfl ?o1 ?o2 ?o3 ?o4 ?o5 ?_)
   try (case o1 => exact cell_three_new _ _ _ _ _)
   case o2 => first | exact ⟨rfl, rfl, rfl⟩ | (intro u hu; simp at hu; rcases hu with rfl | rfl | rfl <;> rfl)
   case o3 => unfold maxLen; omega
   case o4 => omega
   case o5 => first | omega | (simp; omega)
   intro v7 w7 hown7 hgr7 hloc7
   have HIL7 := hid ((hil.out.below ((Below.refl _ _).alloc (Nat.le_refl _) _)).app5 (qr, qf, qt) hown7 hgr7 (by simpa using hloc7))
   clear hown7 hgr7 hloc7 c0 c1 c2 hil
   have hna := HIL7.out.na
   have HA7 := hid HIL7.out.a
   have hz7 := HIL7.out.sz
   rcases HIL7.out.a.2 with ⟨e, _⟩ | ⟨g6, c6, cur6, e, _, _, hn6, hm6, _, _⟩
   ·rw [e] at hna; exact absurd rfl hna
   subst e
   unfold maxLen at hm6
   have HC6 : Hid (∀ j u, (fCells sa)[j]? = some u → w7.cell? ((⟨g6, 0, none⟩ : Addr).add j) = some u) := hid (World.ownsRow.cells HA7.out rfl)
   clear hna
   go_wp2_with (at_builtin; refine wpList_app_at rfl _ _ 32 rfl (w.heap.size + 1) 94 i0 _ 3 24 Tryz.underlying32 hi hz0 hz1 hz2 rfl (by decide) v7 (sb ++ [(qr, qf, qt)]).length (fCells (sb ++ [(qr, qf, qt)])) rfl HIL7.out.b ⟨g6, 0, none⟩ sa.length c6 (fCells sa) rfl (fCells_len sa) HC6.out (fCells_one sa) ?r3 ?r4 ?r5 ?_)
   case r3 => unfold maxLen; simp; omega
   case r4 => simp; omega
   case r5 => omega
   intro v8 w8 hown8 hgr8 hloc8
   have HB8 : Hid (Below w.heap.size w w8) := hid (HIL7.out.bel.grown hgr8 (by omega) (fun k hk => by have := (World.ownsRow.lt HIL7.out.b k hk).1; omega))
   have HF8 : Hid (FR w8 w.heap.size v8 (sb ++ [(qr, qf, qt)] ++ sa)) := by
    refine hid ?_
    unfold FR
    rw [fCells_append, List.length_append, show (sb ++ [(qr, qf, qt)]).length = sb.length + 1 from by simp]
    obtain ⟨q1, q2⟩ := hown8
    refine ⟨q1, q2.imp id ?_⟩
    rintro ⟨g, cap, cur, e, hg, r⟩
    exact ⟨g, cap, cur, e, by omega, r⟩
   clear hown8 hgr8 hloc8
   go_wp2_with fail
   go_ret
   exact ⟨v8, rfl, by rw [HE.out]; exact HF8.out, HB8.out⟩
end Go.Proofs.YtcbcabhjododoaaGreat
