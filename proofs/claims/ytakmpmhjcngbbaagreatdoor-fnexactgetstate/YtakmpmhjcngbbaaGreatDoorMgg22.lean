import Derived.Test.YtakmpmhjcngbbaaGreatDoorMgg21
import Derived.Test.YtakmpmhjcngbbaaGreatDoorMgg04
import Derived.Test.YtakmpmhjcngbbaaGreatDoorMghGq
import Derived.Test.YtakmpmhjcngbbaaGreatDoorMgg16
set_option linter.unusedVariables false
set_option linter.unusedSimpArgs false
set_option maxRecDepth 100000
set_option maxHeartbeats 40000000
namespace Go.Proofs.YtakmpmhjcngbbaaGreatDoor
open Go.ChangeShapes Go.WideShapes Go.ChangeAt Go.RowKit Go.Maps Go.Sort
def fCells (l : List Rn) : List Value := l.flatMap fun p => [.int .i64 p.1, .int .i64 p.2.1, .int .i64 p.2.2]
theorem fCells_snoc (l : List Rn) (p : Rn) : fCells (l ++ [p]) = fCells l ++ [.int .i64 p.1, .int .i64 p.2.1, .int .i64 p.2.2] := by simp [fCells]
def FR (w : World) (B : Nat) (v : Value) (l : List Rn) : Prop := w.ownsRow B 64 3 v l.length (fCells l)
theorem GrpR.look {w : World} {bm n : Nat} {D : DataW Value} {G : Int → Value} {L : Int → List (Int × Int)} (h : GrpR w bm n D G L) (r : Int) (hr : (Lit.int .i64 r).wf = true) :
    (Instr.lookup 49 (.map (some bm)) (.int .i64 r) false).run Tryz.prog w = .ok (G r) w := by
  obtain ⟨v, ps, hrun, hv⟩ := h.own.lookup (int_keyed Tryz.underlying3) Tryz.underlying49 (zeroSpans w) (zd := .held (.slice none 0 0)) (zp := []) rfl (keyOf_int_mk Tryz.underlying3 hr)
  have := h.at' r
  obtain ⟨hd, _⟩ := rawR_inv hv
  unfold kI at this
  rw [this] at hd
  have e : v = G r := by injection hd with hd; exact hd.symm
  rw [hrun, e]
theorem keysR_perm {w : World} {bm n : Nat} {D : DataW Value} {G : Int → Value} {L : Int → List (Int × Int)} (h : GrpR w bm n D G L) (hL : ∀ r, L r ≠ [] → 0 ≤ r ∧ r < 8) : (KS L 8).Perm (intKeys D) ∧ Maps.size D = (KS L 8).length := by
  obtain ⟨es, hD, hpw, _⟩ := h.own.entries (int_keyed Tryz.underlying3)
  obtain ⟨es', hD', hko⟩ := h.own.keysOf
  obtain rfl : es = es' := by rw [hD] at hD'; simpa using hD'
  have key : (KS L 8).Perm (intKeys D) := by
    have hh := h.has'
    rw [hD] at hh ⊢
    refine perm_intKeys hpw (fun p hp => by obtain ⟨v, hv⟩ := hko p hp; obtain ⟨x, _, hx, _⟩ := Maps.keyOf_i64 Tryz.underlying3 hv; exact ⟨x, hx⟩) ((KS_lt L 8).imp (fun h => by omega)) (fun x => ?_)
    have := hh x
    unfold kI at this
    rw [this, KS_mem]
    constructor
    · rintro ⟨_, _, c⟩; rw [c]; rfl
    · intro c
      have c' : (L x).isEmpty = false := by simpa using c
      have := hL x (by intro e; rw [e] at c'; cases c')
      exact ⟨this.1, this.2, c'⟩
  refine ⟨key, ?_⟩
  rw [key.length_eq, hD]
  simp [Maps.size_eq, intKeys]
def outK (L : Int → List (Int × Int)) (ks : List Int) : Nat → List Rn
  | 0 => []
  | k + 1 => outK L ks k ++ tag (ks.getD k 0) (L (ks.getD k 0))
theorem outK_flat (L : Int → List (Int × Int)) (ks : List Int) : ∀ k, k ≤ ks.length → outK L ks k = (ks.take k).flatMap fun r => tag r (L r)
  | 0, _ => by simp [outK]
  | k + 1, h => by
    have e : ks.take (k + 1) = ks.take k ++ [ks.getD k 0] := by
      rw [List.take_add_one]; simp [List.getD, show k < ks.length by omega]
    rw [e, List.flatMap_append, ← outK_flat L ks k (by omega)]
    simp [outK]
theorem outK_len {L : Int → List (Int × Int)} (hL : ∀ r, (L r).length ≤ 4000) (ks : List Int) : ∀ k, (outK L ks k).length ≤ 4000 * k
  | 0 => by simp [outK]
  | k + 1 => by
    have := outK_len hL ks k
    have := hL (ks.getD k 0)
    simp only [outK, List.length_append, tag, List.length_map]
    omega
theorem tag_take {r : Int} {l : List (Int × Int)} {t : Nat} (h : t < l.length) : (tag r l).take (t + 1) = (tag r l).take t ++ [(r, sF l t, sT l t)] := by
  rw [List.take_add_one]
  simp [tag, sF, sT, List.getD, h]
theorem contextM2 {w : World} {bm n : Nat} {D : DataW Value} {G : Int → Value} {L : Int → List (Int × Int)} (h : GrpR w bm n D G L) (hL : ∀ r, L r ≠ [] → 0 ≤ r ∧ r < 8) (hl : ∀ r, (L r).length ≤ 4000) :
    Calls Tryz.prog 32 #[.map (some bm)] w fun e w' => ∃ v, e = .returned (.agg #[v]) ∧ FR w' w.heap.size v (outF L 8) ∧ Below w.heap.size w w' := by
  obtain ⟨i0, hi, hz0, hz1, hz2⟩ := info_parts Tryz.infoRun
  have hbm := h.own.lt
  obtain ⟨kp, hsz⟩ := keysR_perm h hL
  obtain ⟨ks, hks⟩ : ∃ ks, KS L 8 = ks := ⟨_, rfl⟩
  have HOF : Hid (outF L 8 = outK L ks ks.length) := by
    refine hid ?_
    rw [outK_flat L ks _ (Nat.le_refl _), List.take_length, ← hks]; rfl
  have hkl : ks.length ≤ 8 := by rw [← hks]; exact KS_len L 8
  have HMem : Hid (∀ x ∈ ks, 0 ≤ x ∧ x < 8 ∧ L x ≠ []) := fun x hx => by
    rw [← hks] at hx
    have := (KS_mem L 8 x).1 hx
    exact ⟨this.1, by omega, fun e => by rw [e] at this; simp at this⟩
  have HSo : Hid (∀ ss : List Int, ss.Perm (intKeys D) → ss.mergeSort (fun x y => decide (x ≤ y)) = ks ∧ ss.length = ks.length) := fun ss hs => by rw [← hks]; exact ⟨KS_sorted kp hs, by rw [hs.length_eq, ← kp.length_eq]⟩
  rw [hks] at hsz
  clear hks kp hL
  have HG := hid h
  have HLL := hid hl
  have HGlt : Hid (∀ r g, (G r).ownBlock = some g → g < w.heap.size) := fun r g hg => ((h.rows r).lt g hg).2
  clear h hl
  obtain ⟨W0, hW0⟩ : ∃ W0, (w.alloc (.cells #[.slice none 0 0] 26)).alloc (.cells #[.slice none 0 0] 26) = W0 := ⟨_, rfl⟩
  have HB0 : Hid (Below w.heap.size w W0) := by rw [← hW0]; exact hid (below2 _ _ _)
  have HZ0 : Hid (W0.heap.size = w.heap.size + 2) := by rw [← hW0]; exact hid (by simp)
  have c2 : W0.cell? ⟨w.heap.size, 0, none⟩ = some (.slice none 0 0) := by rw [← hW0]; simp
  have c3 : W0.cell? ⟨w.heap.size + 1, 0, none⟩ = some (.slice none 0 0) := by rw [← hW0]; simp
  have f2 : W0.frozen? ⟨w.heap.size, 0, none⟩ = false := by rw [← hW0]; simp
  have f3 : W0.frozen? ⟨w.heap.size + 1, 0, none⟩ = false := by rw [← hW0]; simp
  have HGR0 := hid (HG.out.below HB0.out)
  go_enter Tryz.func32, Tryz.ntmps32
  go_wp2_with fail
  try rw [hW0]
  refine (keysC (some bm) W0).mono ?_
  rintro e w3 ⟨rfl, rfl⟩
  go_wp2_with fail
  refine (sortedC bm n D rawR W0 HGR0.out.own (by rw [hsz]; unfold maxLen; omega) (by rw [hsz]; omega)).mono ?_
  rintro e w4 ⟨v4, ss, rfl, hperm, hrow, hb4⟩
  obtain ⟨hS1, hS2⟩ := HSo.out ss hperm
  rw [hS1, hS2] at hrow
  have z4 : w.heap.size + 2 ≤ w4.heap.size := by have := hb4.size; have := HZ0.out; omega
  have d2 := (hb4.cell (p := ⟨w.heap.size, 0, none⟩) (by have := HZ0.out; show w.heap.size < _; omega)).trans c2
  have d3 := (hb4.cell (p := ⟨w.heap.size + 1, 0, none⟩) (by have := HZ0.out; show w.heap.size + 1 < _; omega)).trans c3
  have k2 := ((bcell hb4).2 w.heap.size 0 (by have := HZ0.out; omega)).trans f2
  have k3 := ((bcell hb4).2 (w.heap.size + 1) 0 (by have := HZ0.out; omega)).trans f3
  have HB4 := hid (keepS HB0.out hb4)
  have HG4 := hid (HG.out.below HB4.out)
  clear hperm hS1 hS2 HSo hb4 hW0 c2 c3 HGR0 f2 f3
  have hkc : Hid (ks.length = 0 ∨ ∃ g cap, v4 = .slice (some ⟨g, 0, none⟩) ks.length cap ∧ g < w4.heap.size ∧ w.heap.size + 2 ≤ g ∧ ks.length ≤ cap ∧ cap ≤ 9223372036854775807 ∧ ∀ i, i < ks.length → w4.cell? ⟨g, i, none⟩ = some (.int .i64 (ks.getD i 0))) := by
    refine hid ?_
    have hr := hrow
    rcases hrow.2 with ⟨_, e0⟩ | ⟨g, cap, cur, rfl, hbg, hg, hnc, hcm, hcs, htake⟩
    · exact .inl e0
    · have := HZ0.out
      unfold maxLen at hcm
      exact .inr ⟨g, cap, rfl, (hr.lt g rfl).2, by omega, hnc, by omega, row_ints hr rfl⟩
  obtain ⟨x4, cp4, e4⟩ : ∃ x c, v4 = .slice x ks.length c := by
    rcases hrow.2 with ⟨rfl, e0⟩ | ⟨g, cap, cur, rfl, _⟩
    · exact ⟨none, 0, by rw [e0]⟩
    · exact ⟨_, _, rfl⟩
  subst e4
  clear hrow
  go_wp2_with fail
  go_loopw [12] (fun iv wr => ∃ (k : Nat) (v : Value), k ≤ ks.length ∧ iv = .int .i64 k ∧ wr.cell? ⟨w.heap.size + 1, 0, none⟩ = some v ∧ wr.cell? ⟨w.heap.size, 0, none⟩ = some (.slice none 0 0) ∧ wr.frozen? ⟨w.heap.size, 0, none⟩ = false ∧ wr.frozen? ⟨w.heap.size + 1, 0, none⟩ = false ∧ Hid (FR wr w4.heap.size v (outK L ks k)) ∧ Hid (w4.grownBy wr (some (w.heap.size + 1)))) (fun iv _ => ks.length - (intOf iv).toNat)
  case atStart => exact ⟨0, _, Nat.zero_le _, rfl, d3, d2, k2, k3, hid (World.ownsRow_nil _ _ _ _), hid ⟨rfl, rfl, rfl, Nat.le_refl _, fun _ _ _ => rfl⟩⟩
  case round =>
    clear d2 d3 k2 k3
    obtain ⟨k, v, hk, rfl, e3, e2, j2, j3, hfr, hgr⟩ := hrel
    by_cases hlt : k < ks.length
    · have hcell : ∃ g, x4 = some ⟨g, 0, none⟩ ∧ ks.length ≤ cp4 ∧ cp4 ≤ 9223372036854775807 ∧ wr.cell? ⟨g, k, none⟩ = some (.int .i64 (ks.getD k 0)) := by
        rcases hkc.out with h | ⟨g, cap, e, hg, hg2, q1, q2, hc⟩
        · omega
        · injection e with e1 e2 e3
          subst e1 e3
          have hgn : some g ≠ some (w.heap.size + 1) := fun e => by injection e with e; omega
          exact ⟨g, rfl, q1, q2, hgr.out.cell (hc k hlt) hgn⟩
      obtain ⟨g, rfl, hq1, hq2, hck⟩ := hcell
      have hmem := HMem.out (ks.getD k 0) (by simp [List.getD, hlt])
      have HOK1 : Hid (outK L ks (k + 1) = outK L ks k ++ tag (ks.getD k 0) (L (ks.getD k 0))) := hid rfl
      have hol := outK_len HLL.out ks k
      obtain ⟨x, hx⟩ : ∃ x, ks.getD k 0 = x := ⟨_, rfl⟩
      rw [hx] at hmem hck HOK1
      have hwx : (Lit.int .i64 x).wf = true := wfI (by omega) (by omega)
      have gw : GrpR wr bm n D G L := HG4.out.gr hgr.out (fun e => by injection e with e; omega) (fun r g hg e => by injection e with e; have := HGlt.out r g hg; omega)
      have hlk := gw.look x hwx
      obtain ⟨xs, cs, eG, hss, hcs1, hcs2⟩ := row_slice (HG4.out.rows x)
      rw [eG] at hlk
      have hlen := HLL.out x
      obtain ⟨m, hm⟩ : ∃ m, (L x).length = m := ⟨_, rfl⟩
      have HSS := hid hss
      have HXS : Hid (∀ a, xs = some a → a.block < w.heap.size) := hid fun a ha => by
        have := HGlt.out x a.block (by rw [eG, ha]; rfl)
        exact this
      rw [hm] at hlk hcs1 hlen HSS
      have HM := hid hm
      have HX := hid hx
      clear gw eG hss hm hx hmem hwx
      go_wp2_with fail
      go_loopw [20] (fun iv wr2 => ∃ (t : Nat) (v2 : Value), t ≤ m ∧ iv = .int .i64 t ∧ wr2.cell? ⟨w.heap.size + 1, 0, none⟩ = some v2 ∧ wr2.cell? ⟨w.heap.size, 0, none⟩ = some (.slice none 0 0) ∧ wr2.frozen? ⟨w.heap.size, 0, none⟩ = false ∧ wr2.frozen? ⟨w.heap.size + 1, 0, none⟩ = false ∧ Hid (FR wr2 w4.heap.size v2 (outK L ks k ++ (tag x (L x)).take t)) ∧ Hid (w4.grownBy wr2 (some (w.heap.size + 1)))) (fun iv _ => m - (intOf iv).toNat)
      case atStart => exact ⟨0, v, Nat.zero_le _, rfl, e3, e2, j2, j3, hid (by simpa using hfr.out), hgr⟩
      case round =>
        clear e3 e2 hlk hfr hck j2 j3
        obtain ⟨t, v2, ht, rfl, e3, e2, j2, j3, hfr2, hgr2⟩ := hrel
        have zr := hgr2.out.size
        have hl2 : (outK L ks k ++ (tag x (L x)).take t).length ≤ 4000 * k + 4000 := by simp only [List.length_append, List.length_take]; omega
        obtain ⟨fl, hfl⟩ : ∃ fl, outK L ks k ++ (tag x (L x)).take t = fl := ⟨_, rfl⟩
        rw [hfl] at hfr2 hl2
        have HFL := hid hfl
        clear hfl
        by_cases htl : t < m
        · have hcell : ∃ gs off, xs = some ⟨gs, off, none⟩ ∧ wr.cell? ⟨gs, off + t * 2, none⟩ = some (.int .i64 (sF (L x) t)) ∧ wr.cell? ⟨gs, off + t * 2 + 1, none⟩ = some (.int .i64 (sT (L x) t)) := by
            rcases HSS.out with h | ⟨gs, off, e, hg, hc⟩
            · omega
            · have h1 := HXS.out _ e
              have hgn : some gs ≠ some (w.heap.size + 1) := fun e => by injection e with e; have h1 : gs < w.heap.size := h1; omega
              exact ⟨gs, off, e, hgr2.out.cell (hc t htl).1 hgn, hgr2.out.cell (hc t htl).2 hgn⟩
          obtain ⟨gs, off, rfl, s0, s1⟩ := hcell
          have HTK := hid (tag_take (r := x) (l := L x) (t := t) (by have := HM.out; omega))
          obtain ⟨qf, hqf⟩ : ∃ q, sF (L x) t = q := ⟨_, rfl⟩
          obtain ⟨qt, hqt⟩ : ∃ q, sT (L x) t = q := ⟨_, rfl⟩
          rw [hqf] at s0 HTK
          rw [hqt] at s1 HTK
          clear hqf hqt
          obtain ⟨W5, hW5⟩ : ∃ W5, wr.alloc (.cells #[.int .i64 qf, .int .i64 qt] 130) = W5 := ⟨_, rfl⟩
          have b5 : Below wr.heap.size wr W5 := by rw [← hW5]; exact (Below.refl _ _).alloc (Nat.le_refl _) _
          have r0 : W5.cell? ⟨wr.heap.size, 0, none⟩ = some (.int .i64 qf) := by rw [← hW5]; simp
          have r1 : W5.cell? ⟨wr.heap.size, 1, none⟩ = some (.int .i64 qt) := by rw [← hW5]; simp
          have e35 := (b5.cell (p := ⟨w.heap.size + 1, 0, none⟩) (show w.heap.size + 1 < wr.heap.size by omega)).trans e3
          have HF5 : Hid (FR W5 w4.heap.size v2 fl) := by rw [← hW5]; exact World.ownsRow.alloc hfr2.out _
          have HG5 : Hid (w4.grownBy W5 (some (w.heap.size + 1))) := by rw [← hW5]; exact hid (hgr2.out.andThen (World.grownBy_alloc wr _ none) (fun j hj => by cases hj))
          have HE25 := hid ((b5.cell (p := ⟨w.heap.size, 0, none⟩) (show w.heap.size < wr.heap.size by omega)).trans e2)
          have HJ25 := hid (((bcell b5).2 w.heap.size 0 (by omega)).trans j2)
          have HJ35 := hid (((bcell b5).2 (w.heap.size + 1) 0 (by omega)).trans j3)
          have z5 := b5.size
          have hv2 : Hid (∀ g, v2.ownBlock = some g → w4.heap.size ≤ g) := hid fun g hg => (World.ownsRow.lt hfr2.out g hg).1
          clear b5 hfr2 hgr2 e2 j2 j3
          go_wp2_with (at_builtin; (try rw [hW5]); refine wpList_app_at rfl _ _ 24 rfl w4.heap.size 64 i0 _ 3 24 Tryz.underlying24 hi hz0 hz1 hz2 rfl (by decide) _ _ _ rfl (World.ownsRow.alloc HF5.out _) ⟨W5.heap.size, 0, none⟩ 1 1 [.int .i64 x, .int .i64 qf, .int .i64 qt] rfl rfl ?c1 ?c2 ?c3 ?c4 ?c5 ?_)
          case c1 => exact cell_three_new _ _ _ _ _
          case c2 => intro u hu; simp at hu; rcases hu with rfl | rfl | rfl <;> rfl
          case c3 => unfold maxLen; omega
          case c4 => omega
          case c5 => simp; omega
          intro v7 w7 hown7 hgr7 hloc7
          obtain ⟨y7, n7, c7, rfl⟩ := row_form hown7
          obtain ⟨v7, hv7⟩ : ∃ v7, v7 = Value.slice y7 n7 c7 := ⟨_, rfl⟩
          rw [← hv7] at hown7 hloc7
          have hbn : some (w.heap.size + 1) ≠ v2.ownBlock := fun e => by have := hv2.out _ e.symm; omega
          have hbn2 : some w.heap.size ≠ v2.ownBlock := fun e => by have := hv2.out _ e.symm; omega
          have b6 : Below W5.heap.size W5 (W5.alloc (.cells #[.int .i64 x, .int .i64 qf, .int .i64 qt] 64)) := (Below.refl _ _).alloc (Nat.le_refl _) _
          have e37 := hgr7.cell ((b6.cell (p := ⟨w.heap.size + 1, 0, none⟩) (show w.heap.size + 1 < W5.heap.size by omega)).trans e35) hbn
          have e27 := hgr7.cell ((b6.cell (p := ⟨w.heap.size, 0, none⟩) (show w.heap.size < W5.heap.size by omega)).trans HE25.out) hbn2
          have z7 := hgr7.size
          have z6 := b6.size
          have j37 : w7.frozen? ⟨w.heap.size + 1, 0, none⟩ = false := (World.frozen?_of_block (hgr7.block (w.heap.size + 1) (by omega) hbn)).trans (((bcell b6).2 (w.heap.size + 1) 0 (by omega)).trans HJ35.out)
          have j27 : w7.frozen? ⟨w.heap.size, 0, none⟩ = false := (World.frozen?_of_block (hgr7.block w.heap.size (by omega) hbn2)).trans (((bcell b6).2 w.heap.size 0 (by omega)).trans HJ25.out)
          have HF7 : Hid (FR w7 w4.heap.size v7 (outK L ks k ++ (tag x (L x)).take (t + 1))) := by
            rw [HTK.out, ← List.append_assoc, HFL.out]
            unfold FR
            rw [fCells_snoc, List.length_append]
            exact hid hown7
          have HG7 : Hid (w4.grownBy w7 (some (w.heap.size + 1))) := hid ((HG5.out.andThen (World.grownBy_alloc W5 _ none) (fun j hj => by cases hj)).andThen hgr7 (fun j hj => .inl (hv2.out j hj)))
          have HF8 : Hid (FR (w7.setCell ⟨w.heap.size + 1, 0, none⟩ v7) w4.heap.size v7 (outK L ks k ++ (tag x (L x)).take (t + 1))) := by
            refine hid ?_
            refine World.ownsRow.kept HF7.out (grownSet w7 ⟨w.heap.size + 1, 0, none⟩ v7) ?_
            cases e : v7.ownBlock with
            | none => exact .inl rfl
            | some g => exact .inr (fun e2 => by have := (World.ownsRow.lt HF7.out g e).1; injection e2 with e2; have e2 : g = w.heap.size + 1 := e2; omega)
          have HG8 : Hid (w4.grownBy (w7.setCell ⟨w.heap.size + 1, 0, none⟩ v7) (some (w.heap.size + 1))) := hid (HG7.out.andThen (grownSet w7 ⟨w.heap.size + 1, 0, none⟩ v7) (fun j hj => .inr hj))
          have k38 := World.cell?_setCell_same w7 ⟨w.heap.size + 1, 0, none⟩ v7 e37
          have k28 : (w7.setCell ⟨w.heap.size + 1, 0, none⟩ v7).cell? ⟨w.heap.size, 0, none⟩ = some (.slice none 0 0) := (World.cell?_setCell_far w7 ⟨w.heap.size + 1, 0, none⟩ ⟨w.heap.size, 0, none⟩ v7 (by show w.heap.size + 1 ≠ w.heap.size; omega)).trans e27
          have HK := hid (And.intro k38 k28)
          subst hv7
          clear hown7 hgr7 hloc7 e35 r0 r1 s0 s1 b6 e3 hW5 k38 k28 e27 HF7 HG7
          go_wp2_with fail
          go_roundw
          case rel => exact ⟨t + 1, _, htl, by go_num, HK.out.1, HK.out.2, by simpa using j27, by simpa using j37, HF8, HG8⟩
          case measure => simp [intOf]; omega
        · obtain rfl : t = m := by omega
          have HF2 : Hid (FR wr w4.heap.size v2 (outK L ks (k + 1))) := by
            rw [HOK1.out]
            have h1 := hfr2.out
            rw [← HFL.out, List.take_of_length_le (by simp only [tag, List.length_map]; have := HM.out; omega)] at h1
            exact hid h1
          clear hfr2
          go_wp2_with fail
          go_roundw
          case rel => exact ⟨k + 1, v2, hlt, by go_num, e3, e2, j2, j3, HF2, hgr2⟩
          case measure => simp [intOf]; omega
    · obtain rfl : k = ks.length := by omega
      obtain ⟨yv, nv, cv, rfl⟩ := row_form hfr.out
      have HF : Hid (FR (wr.setCell ⟨w.heap.size, 0, none⟩ (.slice yv nv cv)) w.heap.size (.slice yv nv cv) (outF L 8)) := by
        rw [HOF.out]
        have h1 := hfr.out
        have h2 : FR wr w.heap.size (.slice yv nv cv) (outK L ks ks.length) := by
          obtain ⟨q1, q2⟩ := h1
          refine ⟨q1, q2.imp id ?_⟩
          rintro ⟨g, cap, cur, e, hg, r⟩
          exact ⟨g, cap, cur, e, by omega, r⟩
        refine hid (World.ownsRow.kept h2 (grownSet wr ⟨w.heap.size, 0, none⟩ (.slice yv nv cv)) ?_)
        cases e : (Value.slice yv nv cv).ownBlock with
        | none => exact .inl rfl
        | some g => exact .inr (fun e2 => by have := (World.ownsRow.lt h1 g e).1; injection e2 with e2; have e2 : g = w.heap.size := e2; omega)
      have HB : Hid (Below w.heap.size w (wr.setCell ⟨w.heap.size, 0, none⟩ (.slice yv nv cv))) := hid ((HB4.out.grown hgr.out (by omega) (fun k hk => by injection hk with hk; omega)).setCell (p := ⟨w.heap.size, 0, none⟩) (Nat.le_refl _) (.slice yv nv cv))
      have k2 := World.cell?_setCell_same wr ⟨w.heap.size, 0, none⟩ (.slice yv nv cv) e2
      clear hfr
      go_wp2_with fail
      refine bodyPost_ret (v := .agg #[.slice yv nv cv]) (by simp [results, Tryz.results32, go_sem, k2]) rfl ⟨_, rfl, HF.out, HB.out⟩
end Go.Proofs.YtakmpmhjcngbbaaGreatDoor
namespace Go.Proofs.YtakmpmhjcngbbaaGreatDoor
def endS : Int → List (Int × Int) → Int
  | least, [] => least
  | _, p :: l => endS (p.2 + 2) l
theorem endS_snoc (l : List (Int × Int)) (p : Int × Int) : ∀ least, endS least (l ++ [p]) = p.2 + 2 := by
  induction l with
  | nil => intro least; rfl
  | cons q l ih => intro least; exact ih _
theorem encS_snoc (l : List (Int × Int)) (p : Int × Int) : ∀ least, encS least (l ++ [p]) = encS least l ++ (uvF 9 (p.1 - endS least l).toNat ++ uvF 9 (p.2 - p.1).toNat) := by
  induction l with
  | nil => intro least; simp [encS, endS]
  | cons q l ih =>
    intro least
    show uvF 9 _ ++ uvF 9 _ ++ encS _ (l ++ [p]) = (uvF 9 _ ++ uvF 9 _ ++ encS _ l) ++ _
    rw [ih]
    simp only [List.append_assoc]
    rfl
theorem take_snoc {α : Type} (l : List α) (d : α) {k : Nat} (h : k < l.length) : l.take (k + 1) = l.take k ++ [l.getD k d] := by
  rw [List.take_add_one]; simp [List.getD, h]
theorem spK_enc (l : List (Int × Int)) : ∀ k, k ≤ l.length → spK l k = encS 1 (l.take k) ∧ loK l k = endS 1 (l.take k)
  | 0, _ => by simp [spK, encS, loK, endS]
  | k + 1, h => by
    obtain ⟨h1, h2⟩ := spK_enc l k (by omega)
    rw [take_snoc l (0, 0) (by omega), encS_snoc, endS_snoc]
    refine ⟨?_, rfl⟩
    simp only [spK]
    rw [h1, h2]
    rfl
theorem grpB_enc (l : List (Int × Int)) : grpB l = uvF 9 l.length ++ encS 1 l := by
  unfold grpB
  rw [(spK_enc l l.length (Nat.le_refl _)).1, List.take_length]
theorem encR_app (g g' : List (Int × List (Int × Int))) : encR (g ++ g') = encR g ++ encR g' := by
  induction g with
  | nil => rfl
  | cons p g ih =>
    show uvF 9 _ ++ uvF 9 _ ++ encS 1 _ ++ encR (g ++ g') = (uvF 9 _ ++ uvF 9 _ ++ encS 1 _ ++ encR g) ++ encR g'
    rw [ih]; simp only [List.append_assoc]
theorem putK_enc (L : Int → List (Int × Int)) (ks : List Int) : ∀ k, k ≤ ks.length → putK L ks k = encR ((ks.take k).map fun r => (r, L r))
  | 0, _ => by simp [putK, encR]
  | k + 1, h => by
    rw [take_snoc ks 0 (by omega), List.map_append, encR_app, ← putK_enc L ks k (by omega)]
    simp only [putK, repB, grpB_enc, List.map_cons, List.map_nil, encR, List.append_nil, List.append_assoc]
def grps (L : Int → List (Int × Int)) : List (Int × List (Int × Int)) := (KS L 8).map fun r => (r, L r)
theorem putB_enc (L : Int → List (Int × Int)) : putB L = encC (grps L) := by
  unfold putB encC
  rw [putK_enc L (KS L 8) _ (Nat.le_refl _), List.take_length]
  simp [grps]
theorem okS_srt : ∀ (l : List (Int × Int)) (least : Int), okS least l → 1 ≤ least → Srt l ∧ ∀ p ∈ l, least ≤ p.1
  | [], _, _, _ => ⟨⟨List.Pairwise.nil, fun p hp => by cases hp⟩, fun p hp => by cases hp⟩
  | q :: l, least, ⟨o1, o2, o3, o4⟩, h1 => by
    obtain ⟨i1, i2⟩ := okS_srt l (q.2 + 2) o4 (by omega)
    refine ⟨⟨List.pairwise_cons.2 ⟨fun p hp => by have := i2 p hp; omega, i1.1⟩, fun p hp => ?_⟩, fun p hp => ?_⟩
    · rcases List.mem_cons.1 hp with rfl | hp
      · exact ⟨by omega, o2, o3⟩
      · exact i1.2 p hp
    · rcases List.mem_cons.1 hp with rfl | hp
      · exact o1
      · have := i2 p hp; omega
theorem srt_okS : ∀ (l : List (Int × Int)) (least : Int), Srt l → (∀ p ∈ l, least ≤ p.1) → okS least l
  | [], _, _, _ => trivial
  | q :: l, least, h, h1 => by
    have hq := h.2 q List.mem_cons_self
    obtain ⟨c1, c2⟩ := List.pairwise_cons.1 h.1
    exact ⟨h1 q List.mem_cons_self, hq.2.1, hq.2.2, srt_okS l _ ⟨c2, fun p hp => h.2 p (List.mem_cons_of_mem _ hp)⟩ (fun p hp => by have := c1 p hp; omega)⟩
def flatG (g : List (Int × List (Int × Int))) : List Rn := g.flatMap fun p => tag p.1 p.2
theorem flatG_cons (p : Int × List (Int × Int)) (g : List (Int × List (Int × Int))) : flatG (p :: g) = tag p.1 p.2 ++ flatG g := by simp [flatG]
theorem flatG_grps (L : Int → List (Int × Int)) : flatG (grps L) = outF L 8 := by
  unfold flatG grps outF; rw [List.flatMap_map]
def lkG : List (Int × List (Int × Int)) → Int → List (Int × Int)
  | [], _ => []
  | p :: g, r => if p.1 = r then p.2 else lkG g r
theorem lkG_ok : ∀ (g : List (Int × List (Int × Int))) (before left : Int), okR before left g → ∀ r, Srt (lkG g r) ∧ (lkG g r ≠ [] → before < r ∧ 0 ≤ r ∧ r ≤ 7) ∧ (r ∈ g.map Prod.fst ↔ lkG g r ≠ [])
  | [], _, _, _, r => ⟨⟨List.Pairwise.nil, fun p hp => by cases hp⟩, fun h => absurd rfl h, by simp [lkG]⟩
  | p :: g, before, left, ⟨o1, o2, o3, o4, o5, o6, o7⟩, r => by
    obtain ⟨i1, i2, i3⟩ := lkG_ok g p.1 _ o7 r
    by_cases e : p.1 = r
    · have el : lkG (p :: g) r = p.2 := if_pos e
      rw [el]
      exact ⟨(okS_srt _ 1 o6 (by omega)).1, fun _ => by omega, by simp [e, o4]⟩
    · have el : lkG (p :: g) r = lkG g r := if_neg e
      rw [el]
      refine ⟨i1, fun h => by have := i2 h; omega, ?_⟩
      rw [List.map_cons, List.mem_cons, i3]
      constructor
      · rintro (h | h)
        · exact absurd h.symm e
        · exact h
      · exact .inr
theorem okR_rise : ∀ (g : List (Int × List (Int × Int))) (before left : Int), okR before left g → (g.map Prod.fst).Pairwise (fun x y => x < y) ∧ ∀ x ∈ g.map Prod.fst, before < x
  | [], _, _, _ => ⟨List.Pairwise.nil, fun x hx => by cases hx⟩
  | p :: g, before, left, ⟨o1, o2, o3, o4, o5, o6, o7⟩ => by
    obtain ⟨i1, i2⟩ := okR_rise g p.1 _ o7
    refine ⟨List.pairwise_cons.2 ⟨i2, i1⟩, fun x hx => ?_⟩
    rcases List.mem_cons.1 hx with rfl | hx
    · exact o1
    · have := i2 x hx; omega
theorem lt_uniq : ∀ (xs ys : List Int), xs.Pairwise (fun x y => x < y) → ys.Pairwise (fun x y => x < y) → (∀ x, x ∈ xs ↔ x ∈ ys) → xs = ys
  | [], [], _, _, _ => rfl
  | [], b :: s, _, _, h => by have := (h b).2 List.mem_cons_self; cases this
  | a :: t, [], _, _, h => by have := (h a).1 List.mem_cons_self; cases this
  | a :: t, b :: s, hx, hy, h => by
    obtain ⟨x1, x2⟩ := List.pairwise_cons.1 hx
    obtain ⟨y1, y2⟩ := List.pairwise_cons.1 hy
    have e : a = b := by
      rcases List.mem_cons.1 ((h a).1 List.mem_cons_self) with e | e
      · exact e
      · rcases List.mem_cons.1 ((h b).2 List.mem_cons_self) with e' | e'
        · exact e'.symm
        · have := x1 b e'; have := y1 a e; omega
    subst e
    congr 1
    refine lt_uniq t s x2 y2 (fun x => ⟨fun hm => ?_, fun hm => ?_⟩)
    · rcases List.mem_cons.1 ((h x).1 (List.mem_cons_of_mem _ hm)) with e | e
      · have := x1 x hm; omega
      · exact e
    · rcases List.mem_cons.1 ((h x).2 (List.mem_cons_of_mem _ hm)) with e | e
      · have := y1 x hm; omega
      · exact e
theorem lkG_at : ∀ (g : List (Int × List (Int × Int))) (before left : Int), okR before left g → (g.map Prod.fst).map (fun r => (r, lkG g r)) = g
  | [], _, _, _ => rfl
  | p :: g, before, left, ⟨o1, o2, o3, o4, o5, o6, o7⟩ => by
    have ih := lkG_at g p.1 _ o7
    have hr := (okR_rise g p.1 _ o7).2
    rw [List.map_cons, List.map_cons]
    have e : lkG (p :: g) p.1 = p.2 := if_pos rfl
    rw [e]
    congr 1
    refine Eq.trans (List.map_congr_left (fun r hm => ?_)) ih
    have : lkG (p :: g) r = lkG g r := if_neg (by have := hr r hm; omega)
    rw [this]
theorem grps_lkG {g : List (Int × List (Int × Int))} {left : Int} (h : okR (-1) left g) : grps (lkG g) = g := by
  have e : KS (lkG g) 8 = g.map Prod.fst := by
    refine lt_uniq _ _ (KS_lt _ 8) (okR_rise g _ _ h).1 (fun x => ?_)
    obtain ⟨_, i2, i3⟩ := lkG_ok g _ _ h x
    rw [KS_mem, i3]
    constructor
    · rintro ⟨_, _, c⟩ e; rw [e] at c; cases c
    · intro hne
      have := i2 hne
      exact ⟨by omega, by omega, by cases hl : lkG g x with | nil => exact absurd hl hne | cons _ _ => rfl⟩
  unfold grps
  rw [e]
  exact lkG_at g _ _ h
theorem flatG_len : ∀ (g : List (Int × List (Int × Int))) (before left : Int), okR before left g → 0 ≤ left → ((flatG g).length : Int) ≤ left
  | [], _, _, _, h0 => by simpa [flatG] using h0
  | p :: g, before, left, ⟨o1, o2, o3, o4, o5, o6, o7⟩, h0 => by
    have ih := flatG_len g p.1 _ o7 (by omega)
    rw [flatG_cons, List.length_append]
    simp only [tag, List.length_map] at *
    omega
def lR (l : List Rn) (i : Nat) : Int := (l.getD i (0, 0, 0)).1
def lF (l : List Rn) (i : Nat) : Int := (l.getD i (0, 0, 0)).2.1
def lT (l : List Rn) (i : Nat) : Int := (l.getD i (0, 0, 0)).2.2
theorem flat_list (l : List Rn) : flat (lR l) (lF l) (lT l) l.length = l := by
  refine List.ext_getElem (by simp [flat]) (fun i h1 h2 => ?_)
  simp [flat, lR, lF, lT, List.getD, h2]
theorem okTo_list {l : List Rn} (h : FSrt l) : okTo (lR l) (lF l) (lT l) l.length := by
  intro i hi
  have e : ∀ j, (hj : j < l.length) → l.getD j (0, 0, 0) = l[j] := fun j hj => by simp [List.getD, hj]
  refine ⟨?_, fun h0 => ?_⟩
  · have := h.2 _ (List.getElem_mem hi)
    rw [← e i hi] at this
    exact runOk_true this
  · have := List.pairwise_iff_getElem.1 h.1 (i - 1) i (by omega) hi (by omega)
    rw [← e i hi, ← e (i - 1) (by omega)] at this
    unfold apartB
    exact decide_eq_true this
theorem srt_uniq {l l' : List (Int × Int)} (h : Srt l) (h' : Srt l') (he : ∀ x, In l x ↔ In l' x) : l = l' := by
  have := uniq (tag_srt h (Int.le_refl 0) (by omega)) (tag_srt h' (Int.le_refl 0) (by omega)) (fun r x => by rw [tag_in, tag_in, he])
  unfold tag at this
  have inj : ∀ (a b : List (Int × Int)), a.map (fun p => ((0 : Int), p.1, p.2)) = b.map (fun p => ((0 : Int), p.1, p.2)) → a = b := by
    intro a
    induction a with
    | nil => intro b hb; cases b with | nil => rfl | cons _ _ => simp at hb
    | cons p a ih =>
      intro b hb
      cases b with
      | nil => simp at hb
      | cons q b =>
        rw [List.map_cons, List.map_cons] at hb
        injection hb with h1 h2
        have e1 : p = q := by
          have h3 := congrArg (fun z : Rn => z.2.1) h1
          have h4 := congrArg (fun z : Rn => z.2.2) h1
          exact Prod.ext h3 h4
        rw [e1, ih b h2]
  exact inj _ _ this
theorem groups_ctx {g : List (Int × List (Int × Int))} (h : okR (-1) 1000 g) :
    ctxB (lR (flatG g)) (lF (flatG g)) (lT (flatG g)) (flatG g).length = true ∧ Lk (lR (flatG g)) (lF (flatG g)) (lT (flatG g)) (flatG g).length = lkG g ∧ putB (lkG g) = encC g ∧ outF (lkG g) 8 = flatG g := by
  have hS : ∀ r, Srt (lkG g r) := fun r => (lkG_ok g _ _ h r).1
  have hG := grps_lkG h
  have hO : outF (lkG g) 8 = flatG g := by rw [← flatG_grps, hG]
  have hF : FSrt (flatG g) := by rw [← hO]; exact (outF_ok hS 8 (Nat.le_refl _)).1
  have hT := okTo_list hF
  have hlen := flatG_len g _ _ h (by omega)
  refine ⟨ctxB_iff.2 ⟨hT, by omega⟩, funext fun r => ?_, by rw [putB_enc, hG], hO⟩
  refine srt_uniq (Lk_srt _ hT r).1 (hS r) (fun x => ?_)
  rw [← flat_in, flat_list, ← hO, (outF_ok hS 8 (Nat.le_refl _)).2.1]
  constructor
  · rintro ⟨_, _, h3⟩; exact h3
  · intro hi
    have := (lkG_ok g _ _ h r).2.1 (fun e => by rw [e] at hi; exact In_nil hi)
    exact ⟨by omega, by omega, hi⟩
theorem okR_of (L : Int → List (Int × Int)) : ∀ (ks : List Int) (before left : Int), ks.Pairwise (fun x y => x < y) → (∀ r ∈ ks, before < r ∧ 0 ≤ r ∧ r ≤ 7 ∧ L r ≠ [] ∧ Srt (L r)) → ((ks.flatMap fun r => tag r (L r)).length : Int) ≤ left → okR before left (ks.map fun r => (r, L r))
  | [], _, _, _, _, _ => trivial
  | k :: ks, before, left, hp, ha, hl => by
    obtain ⟨p1, p2⟩ := List.pairwise_cons.1 hp
    obtain ⟨a1, a2, a3, a4, a5⟩ := ha k List.mem_cons_self
    rw [List.flatMap_cons, List.length_append] at hl
    have ht : (tag k (L k)).length = (L k).length := by simp [tag]
    refine ⟨a1, a2, a3, a4, by show (((L k).length : Nat) : Int) ≤ left; omega, srt_okS _ _ a5 (fun p hp => (a5.2 p hp).1), okR_of L ks k _ p2 (fun r hr => ?_) ?_⟩
    · obtain ⟨_, b2, b3, b4, b5⟩ := ha r (List.mem_cons_of_mem _ hr)
      exact ⟨p1 r hr, b2, b3, b4, b5⟩
    · show _ ≤ left - (((L k).length : Nat) : Int); omega
theorem ctx_groups {R F T : Nat → Int} {n : Nat} (h : ctxB R F T n = true) : okR (-1) 1000 (grps (Lk R F T n)) ∧ encC (grps (Lk R F T n)) = putB (Lk R F T n) ∧ flatG (grps (Lk R F T n)) = flat R F T n := by
  obtain ⟨hT, hn⟩ := ctxB_iff.1 h
  have hS : ∀ r, Srt (Lk R F T n r) := fun r => (Lk_srt n hT r).1
  have hO : outF (Lk R F T n) 8 = flat R F T n := by
    refine uniq (outF_ok hS 8 (Nat.le_refl _)).1 (flat_srt n hT) (fun r x => ?_)
    rw [flat_in, (outF_ok hS 8 (Nat.le_refl _)).2.1]
    constructor
    · rintro ⟨_, _, h3⟩; exact h3
    · intro hi
      have := Lk_rep n hT r (fun e => by rw [e] at hi; exact In_nil hi)
      exact ⟨by omega, by omega, hi⟩
  refine ⟨okR_of _ _ _ _ (KS_lt _ 8) (fun r hr => ?_) ?_, (putB_enc _).symm, by rw [flatG_grps, hO]⟩
  · obtain ⟨k1, k2, k3⟩ := (KS_mem _ 8 r).1 hr
    exact ⟨by omega, by omega, by omega, (fun e => by rw [e] at k3; cases k3), hS r⟩
  · have : (outF (Lk R F T n) 8).length = n := by rw [hO]; simp [flat]
    unfold outF at this
    omega
noncomputable def ldSpans (f : Nat → Int) (n : Nat) (rep : Int) : Nat → Int → Nat → Option (List Rn × Nat)
  | 0, _, x => some ([], x)
  | k + 1, last, x => (rd f n x 1000000000).bind fun a => (rd f n a.2 1000000000).bind fun b =>
      (ldSpans f n rep k (last + 2 + (a.1 : Int) + (b.1 : Int)) b.2).bind fun c => some ((rep, last + 2 + (a.1 : Int), last + 2 + (a.1 : Int) + (b.1 : Int)) :: c.1, c.2)
noncomputable def ldReps (f : Nat → Int) (n : Nat) : Nat → Nat → Option (List Rn × Nat)
  | 0, x => some ([], x)
  | k + 1, x => (rd f n x 8).bind fun a => (rd f n a.2 1000).bind fun b => (ldSpans f n (a.1 : Int) b.1 (-1) b.2).bind fun c => (ldReps f n k c.2).bind fun d => some (c.1 ++ d.1, d.2)
noncomputable def ldCtx (f : Nat → Int) (n x : Nat) : Option (List Rn × Nat) := (rd f n x 8).bind fun a => ldReps f n a.1 a.2
theorem ldSpans_of {f : Nat → Int} (hf : Byt f) {n : Nat} (rep : Int) : ∀ (l : List (Int × Int)) (last : Int) (x : Nat), -1 ≤ last → okS (last + 2) l → At f x (encS (last + 2) l) → x + (encS (last + 2) l).length ≤ n →
    ldSpans f n rep l.length last x = some (tag rep l, x + (encS (last + 2) l).length)
  | [], last, x, _, _, _, _ => by simp [ldSpans, tag, encS]
  | p :: l, last, x, h0, ⟨o1, o2, o3, o4⟩, ha, hn => by
    have ha' : At f x (uvF 9 (p.1 - (last + 2)).toNat ++ uvF 9 (p.2 - p.1).toNat ++ encS (p.2 + 2) l) := ha
    have hn' : x + (uvF 9 (p.1 - (last + 2)).toNat ++ uvF 9 (p.2 - p.1).toNat ++ encS (p.2 + 2) l).length ≤ n := hn
    rw [At.app, At.app] at ha'
    simp only [List.length_append, ← Nat.add_assoc] at ha' hn'
    obtain ⟨⟨a1, a2⟩, a3⟩ := ha'
    have b1 : rd f n x 1000000000 = some ((p.1 - (last + 2)).toNat, x + (uvF 9 (p.1 - (last + 2)).toNat).length) := (rd_iff hf).2 ⟨by omega, by omega, a1, rfl, by omega⟩
    have b2 : rd f n (x + (uvF 9 (p.1 - (last + 2)).toNat).length) 1000000000 = some ((p.2 - p.1).toNat, x + (uvF 9 (p.1 - (last + 2)).toNat).length + (uvF 9 (p.2 - p.1).toNat).length) := (rd_iff hf).2 ⟨by omega, by omega, a2, rfl, by omega⟩
    have b3 := ldSpans_of hf (n := n) rep l p.2 (x + (uvF 9 (p.1 - (last + 2)).toNat).length + (uvF 9 (p.2 - p.1).toNat).length) (by omega) o4 a3 (by omega)
    have e1 : last + 2 + (((p.1 - (last + 2)).toNat : Nat) : Int) = p.1 := by omega
    have e2 : p.1 + (((p.2 - p.1).toNat : Nat) : Int) = p.2 := by omega
    show ldSpans f n rep (l.length + 1) last x = _
    unfold ldSpans
    rw [b1, Option.bind_some]
    dsimp only
    rw [b2, Option.bind_some]
    dsimp only
    rw [e1, e2, b3, Option.bind_some]
    have e3 : x + (encS (last + 2) (p :: l)).length = x + (uvF 9 (p.1 - (last + 2)).toNat).length + (uvF 9 (p.2 - p.1).toNat).length + (encS (p.2 + 2) l).length := by
      show x + (uvF 9 (p.1 - (last + 2)).toNat ++ uvF 9 (p.2 - p.1).toNat ++ encS (p.2 + 2) l).length = _
      simp only [List.length_append]; omega
    rw [e3]
    simp [tag]
theorem ldReps_of {f : Nat → Int} (hf : Byt f) {n : Nat} : ∀ (g : List (Int × List (Int × Int))) (before left : Int) (x : Nat), left ≤ 1000 → okR before left g → At f x (encR g) → x + (encR g).length ≤ n →
    ldReps f n g.length x = some (flatG g, x + (encR g).length)
  | [], _, _, x, _, _, _, _ => by simp [ldReps, flatG, encR]
  | p :: g, before, left, x, hl, ⟨o1, o2, o3, o4, o5, o6, o7⟩, ha, hn => by
    have ha' : At f x (uvF 9 p.1.toNat ++ uvF 9 p.2.length ++ encS 1 p.2 ++ encR g) := ha
    have hn' : x + (uvF 9 p.1.toNat ++ uvF 9 p.2.length ++ encS 1 p.2 ++ encR g).length ≤ n := hn
    rw [At.app, At.app, At.app] at ha'
    simp only [List.length_append, ← Nat.add_assoc] at ha' hn'
    obtain ⟨⟨⟨a1, a2⟩, a3⟩, a4⟩ := ha'
    have b1 : rd f n x 8 = some (p.1.toNat, x + (uvF 9 p.1.toNat).length) := (rd_iff hf).2 ⟨by omega, by omega, a1, rfl, by omega⟩
    have b2 : rd f n (x + (uvF 9 p.1.toNat).length) 1000 = some (p.2.length, x + (uvF 9 p.1.toNat).length + (uvF 9 p.2.length).length) := (rd_iff hf).2 ⟨by omega, by omega, a2, rfl, by omega⟩
    have b3 := ldSpans_of hf (n := n) p.1 p.2 (-1) (x + (uvF 9 p.1.toNat).length + (uvF 9 p.2.length).length) (by omega) o6 a3 (by show _ + (encS 1 p.2).length ≤ n; omega)
    have b4 := ldReps_of hf (n := n) g p.1 (left - p.2.length) (x + (uvF 9 p.1.toNat).length + (uvF 9 p.2.length).length + (encS 1 p.2).length) (by omega) o7 a4 (by omega)
    have er : ((p.1.toNat : Nat) : Int) = p.1 := by omega
    show ldReps f n (g.length + 1) x = _
    unfold ldReps
    rw [b1, Option.bind_some]
    dsimp only
    rw [b2, Option.bind_some]
    dsimp only
    rw [er, b3, Option.bind_some]
    dsimp only
    rw [show (-1 : Int) + 2 = 1 from rfl, b4, Option.bind_some]
    have e3 : x + (encR (p :: g)).length = x + (uvF 9 p.1.toNat).length + (uvF 9 p.2.length).length + (encS 1 p.2).length + (encR g).length := by
      show x + (uvF 9 p.1.toNat ++ uvF 9 p.2.length ++ encS 1 p.2 ++ encR g).length = _
      simp only [List.length_append]; omega
    rw [e3, flatG_cons]
theorem ldCtx_of {f : Nat → Int} (hf : Byt f) {n x x' : Nat} (hx : x ≤ n) {g : List (Int × List (Int × Int))} (h : rdCtx f n x = some (g, x')) : ldCtx f n x = some (flatG g, x') := by
  obtain ⟨h1, h2, h3, h4⟩ := (rdCtx_iff hf hx).1 h
  unfold encC at h2 h3
  rw [At.app] at h2
  rw [List.length_append] at h3
  have hl := okR_len g (-1) 1000 h1 (by omega) (by omega)
  have b1 : rd f n x 8 = some (g.length, x + (uvF 9 g.length).length) := (rd_iff hf).2 ⟨by omega, by omega, h2.1, rfl, by omega⟩
  unfold ldCtx
  rw [b1, Option.bind_some]
  dsimp only
  rw [ldReps_of hf g (-1) 1000 _ (by omega) h1 h2.2 (by omega), h3, Nat.add_assoc]
end Go.Proofs.YtakmpmhjcngbbaaGreatDoor
namespace Go.Proofs.YtakmpmhjcngbbaaGreatDoor
open Go.ChangeShapes Go.WideShapes Go.ChangeAt Go.RowKit Go.Maps
variable {EX : Nat → Option Value}
theorem GrpAt.toR {w : World} {bm n : Nat} {D : DataW Value} {G : Int → Value} {L : Int → List (Int × Int)} (h : GrpAt w bm n D G L) : GrpR w bm n D G L := ⟨h.own, h.at', h.has', fun r => row_zero (h.rows r)⟩
theorem lkS_fold : ∀ (g : List (Int × List (Int × Int))) (L0 : Int → List (Int × Int)) (r : Int), (g.map Prod.fst).Pairwise (fun x y => x < y) → g.foldl (fun L p => upd L p.1 p.2) L0 r = if r ∈ g.map Prod.fst then lkG g r else L0 r
  | [], L0, r, _ => by simp
  | p :: g, L0, r, h => by
    obtain ⟨h1, h2⟩ := List.pairwise_cons.1 h
    rw [List.foldl_cons, lkS_fold g _ r h2]
    by_cases e : r = p.1
    · subst e
      rw [if_neg (fun hm => by have := h1 _ hm; omega), upd_same, if_pos (by simp)]
      exact (if_pos rfl).symm
    · have e2 : lkG (p :: g) r = lkG g r := if_neg (fun e3 => e e3.symm)
      rw [upd_other _ _ e, e2]
      by_cases hm : r ∈ g.map Prod.fst
      · rw [if_pos hm]; exact (if_pos (List.mem_cons_of_mem _ hm)).symm
      · rw [if_neg hm]; exact (if_neg (fun h3 => by rcases List.mem_cons.1 h3 with h4 | h4; exact e h4; exact hm h4)).symm
theorem lkS_eq {g : List (Int × List (Int × Int))} {before left : Int} (h : okR before left g) : lkS g = lkG g := by
  funext r
  unfold lkS
  rw [lkS_fold g _ r (okR_rise g _ _ h).1]
  split
  · rfl
  · rename_i hm
    have := (lkG_ok g _ _ h r).2.2
    cases e : lkG g r with
    | nil => rfl
    | cons q t => exact absurd (this.2 (by rw [e]; simp)) hm
theorem lkG_len : ∀ (g : List (Int × List (Int × Int))) (before left : Int), okR before left g → 0 ≤ left → ∀ r, ((lkG g r).length : Int) ≤ left
  | [], _, _, _, h0, r => by simpa [lkG] using h0
  | p :: g, before, left, ⟨o1, o2, o3, o4, o5, o6, o7⟩, h0, r => by
    have ih := lkG_len g p.1 _ o7 (by omega) r
    by_cases e : p.1 = r
    · rw [show lkG (p :: g) r = p.2 from if_pos e]; exact o5
    · rw [show lkG (p :: g) r = lkG g r from if_neg e]; omega
noncomputable def rdC (f : Nat → Int) (n : Nat) (x : Int) : Option (List (Int × List (Int × Int)) × Nat) := (rdI f n x 8).bind (fun a => rdReps f n a.1 (-1) 1000 a.2)
theorem rdC_nat (f : Nat → Int) (n p : Nat) : rdC f n (p : Int) = rdCtx f n p := by unfold rdC rdCtx; rw [rdI_nat]
theorem rdC_in {f : Nat → Int} (hf : Byt f) {n : Nat} {x : Int} {g : List (Int × List (Int × Int))} {x' : Nat} (h : rdC f n x = some (g, x')) : 0 ≤ x ∧ x ≤ n ∧ okR (-1) 1000 g := by
  have h0 : 0 ≤ x := by
    rcases Int.lt_or_le x 0 with h0 | h0
    · unfold rdC rdI at h; rw [if_neg (by omega)] at h; cases h
    · exact h0
  obtain ⟨p, rfl⟩ : ∃ p : Nat, x = (p : Int) := ⟨x.toNat, by omega⟩
  rw [rdC_nat] at h
  have hp : p ≤ n := by
    unfold rdCtx at h
    obtain ⟨a, h1, _⟩ := Option.bind_eq_some_iff.1 h
    have := (rd_iff hf).1 (show rd f n p 8 = some (a.1, a.2) from h1)
    omega
  exact ⟨h0, by omega, ((rdCtx_iff hf hp).1 h).1⟩
theorem runsC (cb B : Nat) (a : Option Addr) (n c : Nat) (x : Int) (f : Nat → Int) (aT aS aL aE : Addr) (w : World) (hn : n ≤ 1048576) (hf : Byt f) (hcur : Cur EX w cb a n c x) (hs : Seg w a n f) (hab : ∀ y, a = some y → y.block ≠ cb) (hE : Errs w B aT aS aL aE) (hBc : B ≤ cb) :
    Calls Tryz.prog 29 #[.pointer (some ⟨cb, 0, none⟩)] w fun e w' => w.grownBy w' (some cb) ∧
      ((∃ (g : List (Int × List (Int × Int))) (x' bm nn : Nat) (D : DataW Value) (G : Int → Value), rdC f n x = some (g, x') ∧ e = .returned (.tuple #[.map (some bm), .nilIface]) ∧ GrpR w' bm nn D G (lkS g) ∧ Cur EX w' cb a n c (x' : Int) ∧ w.heap.size ≤ bm ∧ ∀ r g, (G r).ownBlock = some g → w.heap.size ≤ g) ∨
       (rdC f n x = none ∧ ∃ (pb : Nat) (u : Value) (y : Int), e = .returned (.tuple #[.map none, .iface 80 (.pointer (some ⟨pb, 0, none⟩))]) ∧ w.heap.size ≤ pb ∧ Plc w' pb x u ∧ Cur EX w' cb a n c y)) := by
  have hcl := hcur.lt
  have hmm := @run_makeMap Tryz.prog
  obtain ⟨W, hW⟩ : ∃ W, w.alloc (.map #[] 0) = W := ⟨_, rfl⟩
  have bW : Below w.heap.size w W := by rw [← hW]; exact (Below.refl _ _).alloc (Nat.le_refl _) _
  have HGM : Hid (GrpR W w.heap.size 0 (.map []) (fun _ => .slice none 0 0) (fun _ => [])) := by rw [← hW]; exact hid (grp_made w).toR
  have HU := hid (replicasC cb B w.heap.size a n c x f aT aS aL aE w W _ _ hn hf (hcur.below bW hcl) hs hab hE hBc hcl (Nat.le_refl _) (grown_below (grown_refl w (some cb)) bW) HGM.out (fun r g hg => by cases hg))
  obtain ⟨c0, c1, c2, _⟩ := hcur
  clear hs hE HGM bW
  go_enter Tryz.func29, Tryz.ntmps29
  go_wp2_with fail
  try rw [hW]
  clear hW hmm
  refine HU.out.mono ?_
  rintro e w1 ⟨g1, ⟨g, x1, nn, D, G, hr, rfl, hgr, cu, hgb⟩ | ⟨hr, t, v, y, rfl, cu⟩⟩
  · have HR := hid (show rdC f n x = some (g, x1) from hr)
    have HG := hid g1
    have HC := hid cu
    have HGR := hid hgr
    have HGB := hid hgb
    clear g1 hr cu hgr HU hgb
    go_wp2_with fail
    go_ret2
    exact ⟨HG.out, .inl ⟨g, x1, _, nn, D, G, HR.out, rfl, HGR.out, HC.out, Nat.le_refl _, HGB.out⟩⟩
  · have HR := hid (show rdC f n x = none from hr)
    have z1 := g1.size
    have HG := hid g1
    have HC := hid cu
    clear g1 hr cu HU
    go_wp2_with fail
    go_ret2
    have B2 : Below w1.heap.size w1 (w1.alloc (.cells #[.string { data := #[99, 111, 110, 116, 101, 120, 116] }, .int .i64 x, .iface t v] 82)) := (Below.refl _ _).alloc (Nat.le_refl _) _
    exact ⟨grown_below HG.out B2, .inr ⟨HR.out, w1.heap.size, .iface t v, _, rfl, z1, ⟨by simp, by simp, by simp⟩, HC.out.below B2 HC.out.lt⟩⟩
end Go.Proofs.YtakmpmhjcngbbaaGreatDoor
namespace Go.Proofs.YtakmpmhjcngbbaaGreatDoor
theorem gL_get {l : List Lf} {k : Nat} (h : k < l.length) : l.take (k + 1) = l.take k ++ [gL l k] := by
  rw [List.take_add_one]
  simp [gL, List.getD, h]
theorem dsK_filter (l : List Lf) (p : List ByteArray) (y : Ky) : ∀ k, k ≤ l.length → dsK l p y k = (l.take k).filter fun z => yes (nx p z = some y)
  | 0, _ => by simp [dsK]
  | k + 1, h => by
    rw [gL_get (by omega), List.filter_append, ← dsK_filter l p y k (by omega)]
    by_cases e : nx p (gL l k) = some y
    · rw [dsK_yes e]; simp [yes_t e]
    · rw [dsK_no e]; simp [yes_f e]
noncomputable def kF (p : List ByteArray) : List Ky → List Lf → List Ky
  | acc, [] => acc
  | acc, z :: l => kF p (match nx p z with | none => acc | some y => if yes (acc.getLast? = some y) = true then acc else acc ++ [y]) l
theorem kF_app (p : List ByteArray) : ∀ (l m : List Lf) (acc : List Ky), kF p acc (l ++ m) = kF p (kF p acc l) m
  | [], _, _ => rfl
  | z :: l, m, acc => by rw [List.cons_append]; simp only [kF]; exact kF_app p l m _
theorem kS_kF (l : List Lf) (p : List ByteArray) : ∀ k, k ≤ l.length → kS l p k = kF p [] (l.take k)
  | 0, _ => by simp [kS, kF]
  | k + 1, h => by
    rw [gL_get (by omega), kF_app, ← kS_kF l p k (by omega)]
    cases e : nx p (gL l k) with
    | none => rw [kS_none e]; simp only [kF, e]
    | some y => rw [kS_some e]; simp only [kF, e]
theorem kF_none {p : List ByteArray} : ∀ {l : List Lf} {acc : List Ky}, (∀ z ∈ l, nx p z = none) → kF p acc l = acc
  | [], _, _ => rfl
  | z :: l, acc, h => by
    unfold kF
    rw [h z List.mem_cons_self]
    exact kF_none (fun x hx => h x (List.mem_cons_of_mem _ hx))
theorem kF_same {p : List ByteArray} {y : Ky} : ∀ {l : List Lf} {acc : List Ky}, acc.getLast? = some y → (∀ z ∈ l, nx p z = some y) → kF p acc l = acc
  | [], _, _, _ => rfl
  | z :: l, acc, ha, h => by
    unfold kF
    rw [h z List.mem_cons_self]
    simp only [yes_t ha, if_true]
    exact kF_same ha (fun x hx => h x (List.mem_cons_of_mem _ hx))
theorem kF_grp {p : List ByteArray} {y : Ky} {l : List Lf} {acc : List Ky} (hl : l ≠ []) (ha : acc.getLast? ≠ some y) (h : ∀ z ∈ l, nx p z = some y) : kF p acc l = acc ++ [y] := by
  cases l with
  | nil => exact absurd rfl hl
  | cons z l =>
    unfold kF
    rw [h z List.mem_cons_self]
    simp only [yes_f ha]
    exact kF_same (by simp) (fun x hx => h x (List.mem_cons_of_mem _ hx))
abbrev Gr3 := Ky × List Lf × List Int
theorem kF_groups {p : List ByteArray} : ∀ {G : List Gr3} {acc : List Ky}, (G.map Prod.fst).Pairwise (fun x y => cmpK x y < 0) → (∀ g ∈ G, g.2.1 ≠ [] ∧ ∀ z ∈ g.2.1, nx p z = some g.1) → (∀ y, acc.getLast? = some y → ∀ g ∈ G, cmpK y g.1 < 0) → kF p acc (G.flatMap fun g => g.2.1) = acc ++ G.map Prod.fst
  | [], acc, _, _, _ => by simp [kF]
  | g :: G, acc, h1, h2, h3 => by
    rw [List.flatMap_cons, kF_app]
    rw [List.map_cons, List.pairwise_cons] at h1
    obtain ⟨k1, k2⟩ := h1
    have hg := h2 g List.mem_cons_self
    rw [kF_grp hg.1 (fun e => by have := h3 _ e g List.mem_cons_self; rw [CmpT.key.irr] at this; omega) hg.2]
    rw [kF_groups k2 (fun x hx => h2 x (List.mem_cons_of_mem _ hx)) (fun y hy x hx => by
      simp at hy
      subst hy
      exact k1 x.1 (List.mem_map.2 ⟨x, hx, rfl⟩))]
    simp
def EnT : Nat → List ByteArray → List Lf → List Int → Prop
  | 0, _, _, _ => False
  | d + 1, p, B, U => ∃ G : List Gr3, B = G.flatMap (fun g => g.2.1) ∧ U = uvF 9 G.length ++ G.flatMap (fun g => textInts g.1.1 ++ ([g.1.2] ++ g.2.2)) ∧ (G.map Prod.fst).Pairwise (fun x y => cmpK x y < 0) ∧ ∀ g ∈ G, (g.2.1 ≠ [] ∧ ∀ z ∈ g.2.1, nx p z = some g.1) ∧ (if g.1.2 = 3 then EnT d (p ++ [g.1.1]) g.2.1 g.2.2 else g.2.2 = mB g.2.1 g.1.2)
theorem key_ne {x y : Ky} (h : cmpK x y < 0) : x ≠ y := fun e => by rw [e, CmpT.key.irr] at h; omega
theorem filt_none {p : List ByteArray} {y : Ky} {l : List Lf} (h : ∀ z ∈ l, nx p z ≠ some y) : (l.filter fun z => yes (nx p z = some y)) = [] := by
  rw [List.filter_eq_nil_iff]
  intro z hz
  rw [yes_f (h z hz)]; simp
theorem filt_all {p : List ByteArray} {y : Ky} {l : List Lf} (h : ∀ z ∈ l, nx p z = some y) : (l.filter fun z => yes (nx p z = some y)) = l := by
  rw [List.filter_eq_self]
  intro z hz
  exact yes_t (h z hz)
theorem flat_mem {G : List Gr3} {z : Lf} (h : z ∈ G.flatMap fun g => g.2.1) : ∃ g ∈ G, z ∈ g.2.1 := by simpa using h
theorem EnT_tB : ∀ (d : Nat) (p : List ByteArray) (B : List Lf) (U : List Int) (A C : List Lf), EnT d p B U → (∀ z ∈ A, nx p z = none) → (∀ z ∈ C, nx p z = none) → U = tB (A ++ (B ++ C)) d p
  | 0, _, _, _, _, _, h, _, _ => h.elim
  | d + 1, p, B, U, A, C, ⟨G, hB, hU, hk, hG⟩, hA, hC => by
    obtain ⟨l, hl⟩ : ∃ l, A ++ (B ++ C) = l := ⟨_, rfl⟩
    rw [hl, tB_eq]
    have e1 : kS l p l.length = G.map Prod.fst := by
      rw [kS_kF l p _ (Nat.le_refl _), List.take_length, ← hl, kF_app, kF_none hA, kF_app, hB, kF_groups hk (fun g hg => (hG g hg).1) (fun y hy => by simp at hy), kF_none hC]
      simp
    rw [e1, List.length_map, List.flatMap_map, hU]
    congr 1
    refine flat_same (fun g hg => ?_)
    obtain ⟨G1, G2, hs⟩ := List.append_of_mem hg
    subst hs
    have hk' := hk
    rw [List.map_append, List.map_cons, List.pairwise_append, List.pairwise_cons] at hk'
    obtain ⟨_, ⟨q2, _⟩, q3⟩ := hk'
    have n1 : ∀ z ∈ G1.flatMap (fun g => g.2.1), nx p z ≠ some g.1 := fun z hz e => by
      obtain ⟨g', h1, h2⟩ := flat_mem hz
      have := (hG g' (by simp [h1])).1.2 z h2
      rw [this] at e
      exact key_ne (q3 g'.1 (List.mem_map.2 ⟨g', h1, rfl⟩) g.1 List.mem_cons_self) (Option.some.inj e)
    have n2 : ∀ z ∈ G2.flatMap (fun g => g.2.1), nx p z ≠ some g.1 := fun z hz e => by
      obtain ⟨g', h1, h2⟩ := flat_mem hz
      have := (hG g' (by simp [h1])).1.2 z h2
      rw [this] at e
      exact key_ne (q2 g'.1 (List.mem_map.2 ⟨g', h1, rfl⟩)) (Option.some.inj e).symm
    have hll : l = (A ++ G1.flatMap fun g => g.2.1) ++ (g.2.1 ++ ((G2.flatMap fun g => g.2.1) ++ C)) := by
      rw [← hl, hB, List.flatMap_append, List.flatMap_cons]
      simp
    unfold kB
    congr 2
    have hg2 := (hG g hg).2
    by_cases h3 : g.1.2 = 3
    · rw [if_pos h3] at hg2 ⊢
      have eg : g.1 = (g.1.1, 3) := by rw [← h3]
      have m : ∀ z, nx p z ≠ some g.1 → nx (p ++ [g.1.1]) z = none := fun z hz => by
        cases e : nx (p ++ [g.1.1]) z with
        | none => rfl
        | some y => exact absurd (by rw [eg]; exact nx_map.2 (by rw [e]; simp)) hz
      rw [hll]
      refine EnT_tB d (p ++ [g.1.1]) g.2.1 g.2.2 _ _ hg2 (fun z hz => m z ?_) (fun z hz => m z ?_)
      · rcases List.mem_append.1 hz with h | h
        · rw [hA z h]; simp
        · exact n1 z h
      · rcases List.mem_append.1 hz with h | h
        · exact n2 z h
        · rw [hC z h]; simp
    · rw [if_neg h3] at hg2 ⊢
      rw [hg2, dsK_filter l p g.1 _ (Nat.le_refl _), List.take_length, hll, List.filter_append, List.filter_append, List.filter_append, List.filter_append]
      rw [filt_none (l := A) (fun z hz => by rw [hA z hz]; simp), filt_none n1, filt_none n2, filt_none (l := C) (fun z hz => by rw [hC z hz]; simp), filt_all (hG g hg).1.2]
      simp
end Go.Proofs.YtakmpmhjcngbbaaGreatDoor
