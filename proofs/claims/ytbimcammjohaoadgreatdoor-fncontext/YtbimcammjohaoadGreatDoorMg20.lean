import Derived.Test.YtbimcammjohaoadGreatDoorMg19
import Derived.Test.YtbimcammjohaoadGreatDoorMg01
namespace Go.Proofs.YtbimcammjohaoadGreatDoor
open Go.ChangeShapes Go.WideShapes Go.ChangeAt Go.RowKit Go.Maps Go.Sort
set_option linter.unusedVariables false
set_option linter.unusedSimpArgs false

def fCells (l : List Rn) : List Value := l.flatMap fun p => [.int .i64 p.1, .int .i64 p.2.1, .int .i64 p.2.2]
theorem fCells_snoc (l : List Rn) (p : Rn) : fCells (l ++ [p]) = fCells l ++ [.int .i64 p.1, .int .i64 p.2.1, .int .i64 p.2.2] := by simp [fCells]
def FR (w : World) (B : Nat) (v : Value) (l : List Rn) : Prop := w.ownsRow B 41 3 v l.length (fCells l)

set_option maxRecDepth 100000 in
theorem GrpR.look {w : World} {bm n : Nat} {D : DataW Value} {G : Int → Value} {L : Int → List (Int × Int)} (h : GrpR w bm n D G L) (r : Int) (hr : (Lit.int .i64 r).wf = true) :
    (Instr.lookup 49 (.map (some bm)) (.int .i64 r) false).run Tryz.prog w = .ok (G r) w := by
  obtain ⟨v, ps, hrun, hv⟩ := h.own.lookup (int_keyed Tryz.underlying3) Tryz.underlying49 (zeroSpans w) (zd := .held (.slice none 0 0)) (zp := []) rfl (keyOf_int_mk Tryz.underlying3 hr)
  have := h.at' r
  obtain ⟨hd, _⟩ := rawR_inv hv
  unfold kI at this
  rw [this] at hd
  have e : v = G r := by injection hd with hd; exact hd.symm
  rw [hrun, e]
theorem keysR_perm {w : World} {bm n : Nat} {D : DataW Value} {G : Int → Value} {L : Int → List (Int × Int)} (h : GrpR w bm n D G L) (hL : ∀ r, L r ≠ [] → 0 ≤ r ∧ r < 8) : (KS L 8).Perm (intKeys D) ∧ Maps.size D = (KS L 8).length := by
  obtain ⟨es, hD, hpw, _⟩ := h.own.entries (int_keyed Tryz.underlying3)
  obtain ⟨es', hD', hko⟩ := h.own.keysOf
  obtain rfl : es = es' := by rw [hD] at hD'; simpa using hD'
  have key : (KS L 8).Perm (intKeys D) := by
    have hh := h.has'
    rw [hD] at hh ⊢
    refine perm_intKeys hpw (fun p hp => by obtain ⟨v, hv⟩ := hko p hp; obtain ⟨x, _, hx, _⟩ := Maps.keyOf_i64 Tryz.underlying3 hv; exact ⟨x, hx⟩) ((KS_lt L 8).imp (fun h => by omega)) (fun x => ?_)
    have := hh x
    unfold kI at this
    rw [this, KS_mem]
    constructor
    · rintro ⟨_, _, c⟩; rw [c]; rfl
    · intro c
      have c' : (L x).isEmpty = false := by simpa using c
      have := hL x (by intro e; rw [e] at c'; cases c')
      exact ⟨this.1, this.2, c'⟩
  refine ⟨key, ?_⟩
  rw [key.length_eq, hD]
  simp [Maps.size_eq, intKeys]

def outK (L : Int → List (Int × Int)) (ks : List Int) : Nat → List Rn
  | 0 => []
  | k + 1 => outK L ks k ++ tag (ks.getD k 0) (L (ks.getD k 0))
theorem outK_flat (L : Int → List (Int × Int)) (ks : List Int) : ∀ k, k ≤ ks.length → outK L ks k = (ks.take k).flatMap fun r => tag r (L r)
  | 0, _ => by simp [outK]
  | k + 1, h => by
    have e : ks.take (k + 1) = ks.take k ++ [ks.getD k 0] := by
      rw [List.take_add_one]; simp [List.getD, show k < ks.length by omega]
    rw [e, List.flatMap_append, ← outK_flat L ks k (by omega)]
    simp [outK]
theorem outK_len {L : Int → List (Int × Int)} (hL : ∀ r, (L r).length ≤ 2000) (ks : List Int) : ∀ k, (outK L ks k).length ≤ 2000 * k
  | 0 => by simp [outK]
  | k + 1 => by
    have := outK_len hL ks k
    have := hL (ks.getD k 0)
    simp only [outK, List.length_append, tag, List.length_map]
    omega
theorem tag_take {r : Int} {l : List (Int × Int)} {t : Nat} (h : t < l.length) : (tag r l).take (t + 1) = (tag r l).take t ++ [(r, sF l t, sT l t)] := by
  rw [List.take_add_one]
  simp [tag, sF, sT, List.getD, h]

set_option maxRecDepth 100000 in
set_option maxHeartbeats 2000000 in
theorem contextM {w : World} {bm n : Nat} {D : DataW Value} {G : Int → Value} {L : Int → List (Int × Int)} (h : GrpR w bm n D G L) (hL : ∀ r, L r ≠ [] → 0 ≤ r ∧ r < 8) (hl : ∀ r, (L r).length ≤ 2000) :
    Calls Tryz.prog 21 #[.map (some bm)] w fun e w' => ∃ v, e = .returned (.agg #[v]) ∧ FR w' w.heap.size v (outF L 8) ∧ Below w.heap.size w w' := by
  obtain ⟨i0, hi, hz0, hz1, hz2⟩ := info_parts Tryz.infoRun
  have hbm := h.own.lt
  obtain ⟨kp, hsz⟩ := keysR_perm h hL
  obtain ⟨ks, hks⟩ : ∃ ks, KS L 8 = ks := ⟨_, rfl⟩
  have HOF : Hid (outF L 8 = outK L ks ks.length) := by
    refine hid ?_
    rw [outK_flat L ks _ (Nat.le_refl _), List.take_length, ← hks]; rfl
  have hkl : ks.length ≤ 8 := by rw [← hks]; exact KS_len L 8
  have HMem : Hid (∀ x ∈ ks, 0 ≤ x ∧ x < 8 ∧ L x ≠ []) := fun x hx => by
    rw [← hks] at hx
    have := (KS_mem L 8 x).1 hx
    exact ⟨this.1, by omega, fun e => by rw [e] at this; simp at this⟩
  have HSo : Hid (∀ ss : List Int, ss.Perm (intKeys D) → ss.mergeSort (fun x y => decide (x ≤ y)) = ks ∧ ss.length = ks.length) := fun ss hs => by rw [← hks]; exact ⟨KS_sorted kp hs, by rw [hs.length_eq, ← kp.length_eq]⟩
  rw [hks] at hsz
  clear hks kp hL
  have HG := hid h
  have HLL := hid hl
  have HGlt : Hid (∀ r g, (G r).ownBlock = some g → g < w.heap.size) := fun r g hg => ((h.rows r).lt g hg).2
  clear h hl
  obtain ⟨W0, hW0⟩ : ∃ W0, (w.alloc (.cells #[.slice none 0 0] 25)).alloc (.cells #[.slice none 0 0] 25) = W0 := ⟨_, rfl⟩
  have HB0 : Hid (Below w.heap.size w W0) := by rw [← hW0]; exact hid (below2 _ _ _)
  have HZ0 : Hid (W0.heap.size = w.heap.size + 2) := by rw [← hW0]; exact hid (by simp)
  have c2 : W0.cell? ⟨w.heap.size, 0, none⟩ = some (.slice none 0 0) := by rw [← hW0]; simp
  have c3 : W0.cell? ⟨w.heap.size + 1, 0, none⟩ = some (.slice none 0 0) := by rw [← hW0]; simp
  have f2 : W0.frozen? ⟨w.heap.size, 0, none⟩ = false := by rw [← hW0]; simp
  have f3 : W0.frozen? ⟨w.heap.size + 1, 0, none⟩ = false := by rw [← hW0]; simp
  have HGR0 := hid (HG.out.below HB0.out)
  go_enter Tryz.func21, Tryz.ntmps21
  go_wp2_with fail
  try rw [hW0]
  refine (keysC (some bm) W0).mono ?_
  rintro e w3 ⟨rfl, rfl⟩
  go_wp2_with fail
  refine (sortedC bm n D rawR W0 HGR0.out.own (by rw [hsz]; unfold maxLen; omega) (by rw [hsz]; omega)).mono ?_
  rintro e w4 ⟨v4, ss, rfl, hperm, hrow, hb4⟩
  obtain ⟨hS1, hS2⟩ := HSo.out ss hperm
  rw [hS1, hS2] at hrow
  have z4 : w.heap.size + 2 ≤ w4.heap.size := by have := hb4.size; have := HZ0.out; omega
  have d2 := (hb4.cell (p := ⟨w.heap.size, 0, none⟩) (by have := HZ0.out; show w.heap.size < _; omega)).trans c2
  have d3 := (hb4.cell (p := ⟨w.heap.size + 1, 0, none⟩) (by have := HZ0.out; show w.heap.size + 1 < _; omega)).trans c3
  have k2 := ((bcell hb4).2 w.heap.size 0 (by have := HZ0.out; omega)).trans f2
  have k3 := ((bcell hb4).2 (w.heap.size + 1) 0 (by have := HZ0.out; omega)).trans f3
  have HB4 := hid (keepS HB0.out hb4)
  have HG4 := hid (HG.out.below HB4.out)
  clear hperm hS1 hS2 HSo hb4 hW0 c2 c3 HGR0 f2 f3
  have hkc : Hid (ks.length = 0 ∨ ∃ g cap, v4 = .slice (some ⟨g, 0, none⟩) ks.length cap ∧ g < w4.heap.size ∧ w.heap.size + 2 ≤ g ∧ ks.length ≤ cap ∧ cap ≤ 9223372036854775807 ∧ ∀ i, i < ks.length → w4.cell? ⟨g, i, none⟩ = some (.int .i64 (ks.getD i 0))) := by
    refine hid ?_
    have hr := hrow
    rcases hrow.2 with ⟨_, e0⟩ | ⟨g, cap, cur, rfl, hbg, hg, hnc, hcm, hcs, htake⟩
    · exact .inl e0
    · have := HZ0.out
      unfold maxLen at hcm
      exact .inr ⟨g, cap, rfl, (hr.lt g rfl).2, by omega, hnc, by omega, row_ints hr rfl⟩
  obtain ⟨x4, cp4, e4⟩ : ∃ x c, v4 = .slice x ks.length c := by
    rcases hrow.2 with ⟨rfl, e0⟩ | ⟨g, cap, cur, rfl, _⟩
    · exact ⟨none, 0, by rw [e0]⟩
    · exact ⟨_, _, rfl⟩
  subst e4
  clear hrow
  go_wp2_with fail
  go_loopw [12] (fun iv wr => ∃ (k : Nat) (v : Value), k ≤ ks.length ∧ iv = .int .i64 k ∧ wr.cell? ⟨w.heap.size + 1, 0, none⟩ = some v ∧ wr.cell? ⟨w.heap.size, 0, none⟩ = some (.slice none 0 0) ∧ wr.frozen? ⟨w.heap.size, 0, none⟩ = false ∧ wr.frozen? ⟨w.heap.size + 1, 0, none⟩ = false ∧ Hid (FR wr w4.heap.size v (outK L ks k)) ∧ Hid (w4.grownBy wr (some (w.heap.size + 1)))) (fun iv _ => ks.length - (intOf iv).toNat)
  case atStart => exact ⟨0, _, Nat.zero_le _, rfl, d3, d2, k2, k3, hid (World.ownsRow_nil _ _ _ _), hid ⟨rfl, rfl, rfl, Nat.le_refl _, fun _ _ _ => rfl⟩⟩
  case round =>
    clear d2 d3 k2 k3
    obtain ⟨k, v, hk, rfl, e3, e2, j2, j3, hfr, hgr⟩ := hrel
    by_cases hlt : k < ks.length
    · have hcell : ∃ g, x4 = some ⟨g, 0, none⟩ ∧ ks.length ≤ cp4 ∧ cp4 ≤ 9223372036854775807 ∧ wr.cell? ⟨g, k, none⟩ = some (.int .i64 (ks.getD k 0)) := by
        rcases hkc.out with h | ⟨g, cap, e, hg, hg2, q1, q2, hc⟩
        · omega
        · injection e with e1 e2 e3
          subst e1 e3
          have hgn : some g ≠ some (w.heap.size + 1) := fun e => by injection e with e; omega
          exact ⟨g, rfl, q1, q2, hgr.out.cell (hc k hlt) hgn⟩
      obtain ⟨g, rfl, hq1, hq2, hck⟩ := hcell
      have hmem := HMem.out (ks.getD k 0) (by simp [List.getD, hlt])
      have HOK1 : Hid (outK L ks (k + 1) = outK L ks k ++ tag (ks.getD k 0) (L (ks.getD k 0))) := hid rfl
      have hol := outK_len HLL.out ks k
      obtain ⟨x, hx⟩ : ∃ x, ks.getD k 0 = x := ⟨_, rfl⟩
      rw [hx] at hmem hck HOK1
      have hwx : (Lit.int .i64 x).wf = true := wfI (by omega) (by omega)
      have gw : GrpR wr bm n D G L := HG4.out.gr hgr.out (fun e => by injection e with e; omega) (fun r g hg e => by injection e with e; have := HGlt.out r g hg; omega)
      have hlk := gw.look x hwx
      obtain ⟨xs, cs, eG, hss, hcs1, hcs2⟩ := row_slice (HG4.out.rows x)
      rw [eG] at hlk
      have hlen := HLL.out x
      obtain ⟨m, hm⟩ : ∃ m, (L x).length = m := ⟨_, rfl⟩
      have HSS := hid hss
      have HXS : Hid (∀ a, xs = some a → a.block < w.heap.size) := hid fun a ha => by
        have := HGlt.out x a.block (by rw [eG, ha]; rfl)
        exact this
      rw [hm] at hlk hcs1 hlen HSS
      have HM := hid hm
      have HX := hid hx
      clear gw eG hss hm hx hmem hwx
      go_wp2_with fail
      go_loopw [20] (fun iv wr2 => ∃ (t : Nat) (v2 : Value), t ≤ m ∧ iv = .int .i64 t ∧ wr2.cell? ⟨w.heap.size + 1, 0, none⟩ = some v2 ∧ wr2.cell? ⟨w.heap.size, 0, none⟩ = some (.slice none 0 0) ∧ wr2.frozen? ⟨w.heap.size, 0, none⟩ = false ∧ wr2.frozen? ⟨w.heap.size + 1, 0, none⟩ = false ∧ Hid (FR wr2 w4.heap.size v2 (outK L ks k ++ (tag x (L x)).take t)) ∧ Hid (w4.grownBy wr2 (some (w.heap.size + 1)))) (fun iv _ => m - (intOf iv).toNat)
      case atStart => exact ⟨0, v, Nat.zero_le _, rfl, e3, e2, j2, j3, hid (by simpa using hfr.out), hgr⟩
      case round =>
        clear e3 e2 hlk hfr hck j2 j3
        obtain ⟨t, v2, ht, rfl, e3, e2, j2, j3, hfr2, hgr2⟩ := hrel
        have zr := hgr2.out.size
        have hl2 : (outK L ks k ++ (tag x (L x)).take t).length ≤ 2000 * k + 2000 := by simp only [List.length_append, List.length_take]; omega
        obtain ⟨fl, hfl⟩ : ∃ fl, outK L ks k ++ (tag x (L x)).take t = fl := ⟨_, rfl⟩
        rw [hfl] at hfr2 hl2
        have HFL := hid hfl
        clear hfl
        by_cases htl : t < m
        · have hcell : ∃ gs off, xs = some ⟨gs, off, none⟩ ∧ wr.cell? ⟨gs, off + t * 2, none⟩ = some (.int .i64 (sF (L x) t)) ∧ wr.cell? ⟨gs, off + t * 2 + 1, none⟩ = some (.int .i64 (sT (L x) t)) := by
            rcases HSS.out with h | ⟨gs, off, e, hg, hc⟩
            · omega
            · have h1 := HXS.out _ e
              have hgn : some gs ≠ some (w.heap.size + 1) := fun e => by injection e with e; have h1 : gs < w.heap.size := h1; omega
              exact ⟨gs, off, e, hgr2.out.cell (hc t htl).1 hgn, hgr2.out.cell (hc t htl).2 hgn⟩
          obtain ⟨gs, off, rfl, s0, s1⟩ := hcell
          have HTK := hid (tag_take (r := x) (l := L x) (t := t) (by have := HM.out; omega))
          obtain ⟨qf, hqf⟩ : ∃ q, sF (L x) t = q := ⟨_, rfl⟩
          obtain ⟨qt, hqt⟩ : ∃ q, sT (L x) t = q := ⟨_, rfl⟩
          rw [hqf] at s0 HTK
          rw [hqt] at s1 HTK
          clear hqf hqt
          obtain ⟨W5, hW5⟩ : ∃ W5, wr.alloc (.cells #[.int .i64 qf, .int .i64 qt] 73) = W5 := ⟨_, rfl⟩
          have b5 : Below wr.heap.size wr W5 := by rw [← hW5]; exact (Below.refl _ _).alloc (Nat.le_refl _) _
          have r0 : W5.cell? ⟨wr.heap.size, 0, none⟩ = some (.int .i64 qf) := by rw [← hW5]; simp
          have r1 : W5.cell? ⟨wr.heap.size, 1, none⟩ = some (.int .i64 qt) := by rw [← hW5]; simp
          have e35 := (b5.cell (p := ⟨w.heap.size + 1, 0, none⟩) (show w.heap.size + 1 < wr.heap.size by omega)).trans e3
          have HF5 : Hid (FR W5 w4.heap.size v2 fl) := by rw [← hW5]; exact World.ownsRow.alloc hfr2.out _
          have HG5 : Hid (w4.grownBy W5 (some (w.heap.size + 1))) := by rw [← hW5]; exact hid (hgr2.out.andThen (World.grownBy_alloc wr _ none) (fun j hj => by cases hj))
          have HE25 := hid ((b5.cell (p := ⟨w.heap.size, 0, none⟩) (show w.heap.size < wr.heap.size by omega)).trans e2)
          have HJ25 := hid (((bcell b5).2 w.heap.size 0 (by omega)).trans j2)
          have HJ35 := hid (((bcell b5).2 (w.heap.size + 1) 0 (by omega)).trans j3)
          have z5 := b5.size
          have hv2 : Hid (∀ g, v2.ownBlock = some g → w4.heap.size ≤ g) := hid fun g hg => (World.ownsRow.lt hfr2.out g hg).1
          clear b5 hfr2 hgr2 e2 j2 j3
          go_wp2_with (at_builtin; (try rw [hW5]); refine wpList_app_at rfl _ _ 23 rfl w4.heap.size 41 i0 _ 3 24 Tryz.underlying23 hi hz0 hz1 hz2 rfl (by decide) _ _ _ rfl (World.ownsRow.alloc HF5.out _) ⟨W5.heap.size, 0, none⟩ 1 1 [.int .i64 x, .int .i64 qf, .int .i64 qt] rfl rfl ?c1 ?c2 ?c3 ?c4 ?c5 ?_)
          case c1 => exact cell_three_new _ _ _ _ _
          case c2 => intro u hu; simp at hu; rcases hu with rfl | rfl | rfl <;> rfl
          case c3 => unfold maxLen; omega
          case c4 => omega
          case c5 => simp; omega
          intro v7 w7 hown7 hgr7 hloc7
          obtain ⟨y7, n7, c7, rfl⟩ := row_form hown7
          obtain ⟨v7, hv7⟩ : ∃ v7, v7 = Value.slice y7 n7 c7 := ⟨_, rfl⟩
          rw [← hv7] at hown7 hloc7
          have hbn : some (w.heap.size + 1) ≠ v2.ownBlock := fun e => by have := hv2.out _ e.symm; omega
          have hbn2 : some w.heap.size ≠ v2.ownBlock := fun e => by have := hv2.out _ e.symm; omega
          have b6 : Below W5.heap.size W5 (W5.alloc (.cells #[.int .i64 x, .int .i64 qf, .int .i64 qt] 41)) := (Below.refl _ _).alloc (Nat.le_refl _) _
          have e37 := hgr7.cell ((b6.cell (p := ⟨w.heap.size + 1, 0, none⟩) (show w.heap.size + 1 < W5.heap.size by omega)).trans e35) hbn
          have e27 := hgr7.cell ((b6.cell (p := ⟨w.heap.size, 0, none⟩) (show w.heap.size < W5.heap.size by omega)).trans HE25.out) hbn2
          have z7 := hgr7.size
          have z6 := b6.size
          have j37 : w7.frozen? ⟨w.heap.size + 1, 0, none⟩ = false := (World.frozen?_of_block (hgr7.block (w.heap.size + 1) (by omega) hbn)).trans (((bcell b6).2 (w.heap.size + 1) 0 (by omega)).trans HJ35.out)
          have j27 : w7.frozen? ⟨w.heap.size, 0, none⟩ = false := (World.frozen?_of_block (hgr7.block w.heap.size (by omega) hbn2)).trans (((bcell b6).2 w.heap.size 0 (by omega)).trans HJ25.out)
          have HF7 : Hid (FR w7 w4.heap.size v7 (outK L ks k ++ (tag x (L x)).take (t + 1))) := by
            rw [HTK.out, ← List.append_assoc, HFL.out]
            unfold FR
            rw [fCells_snoc, List.length_append]
            exact hid hown7
          have HG7 : Hid (w4.grownBy w7 (some (w.heap.size + 1))) := hid ((HG5.out.andThen (World.grownBy_alloc W5 _ none) (fun j hj => by cases hj)).andThen hgr7 (fun j hj => .inl (hv2.out j hj)))
          have HF8 : Hid (FR (w7.setCell ⟨w.heap.size + 1, 0, none⟩ v7) w4.heap.size v7 (outK L ks k ++ (tag x (L x)).take (t + 1))) := by
            refine hid ?_
            refine World.ownsRow.kept HF7.out (grownSet w7 ⟨w.heap.size + 1, 0, none⟩ v7) ?_
            cases e : v7.ownBlock with
            | none => exact .inl rfl
            | some g => exact .inr (fun e2 => by have := (World.ownsRow.lt HF7.out g e).1; injection e2 with e2; have e2 : g = w.heap.size + 1 := e2; omega)
          have HG8 : Hid (w4.grownBy (w7.setCell ⟨w.heap.size + 1, 0, none⟩ v7) (some (w.heap.size + 1))) := hid (HG7.out.andThen (grownSet w7 ⟨w.heap.size + 1, 0, none⟩ v7) (fun j hj => .inr hj))
          have k38 := World.cell?_setCell_same w7 ⟨w.heap.size + 1, 0, none⟩ v7 e37
          have k28 : (w7.setCell ⟨w.heap.size + 1, 0, none⟩ v7).cell? ⟨w.heap.size, 0, none⟩ = some (.slice none 0 0) := (World.cell?_setCell_far w7 ⟨w.heap.size + 1, 0, none⟩ ⟨w.heap.size, 0, none⟩ v7 (by show w.heap.size + 1 ≠ w.heap.size; omega)).trans e27
          have HK := hid (And.intro k38 k28)
          subst hv7
          clear hown7 hgr7 hloc7 e35 r0 r1 s0 s1 b6 e3 hW5 k38 k28 e27 HF7 HG7
          go_wp2_with fail
          go_roundw
          case rel => exact ⟨t + 1, _, htl, by go_num, HK.out.1, HK.out.2, by simpa using j27, by simpa using j37, HF8, HG8⟩
          case measure => simp [intOf]; omega
        · obtain rfl : t = m := by omega
          have HF2 : Hid (FR wr w4.heap.size v2 (outK L ks (k + 1))) := by
            rw [HOK1.out]
            have h1 := hfr2.out
            rw [← HFL.out, List.take_of_length_le (by simp only [tag, List.length_map]; have := HM.out; omega)] at h1
            exact hid h1
          clear hfr2
          go_wp2_with fail
          go_roundw
          case rel => exact ⟨k + 1, v2, hlt, by go_num, e3, e2, j2, j3, HF2, hgr2⟩
          case measure => simp [intOf]; omega
    · obtain rfl : k = ks.length := by omega
      obtain ⟨yv, nv, cv, rfl⟩ := row_form hfr.out
      have HF : Hid (FR (wr.setCell ⟨w.heap.size, 0, none⟩ (.slice yv nv cv)) w.heap.size (.slice yv nv cv) (outF L 8)) := by
        rw [HOF.out]
        have h1 := hfr.out
        have h2 : FR wr w.heap.size (.slice yv nv cv) (outK L ks ks.length) := by
          obtain ⟨q1, q2⟩ := h1
          refine ⟨q1, q2.imp id ?_⟩
          rintro ⟨g, cap, cur, e, hg, r⟩
          exact ⟨g, cap, cur, e, by omega, r⟩
        refine hid (World.ownsRow.kept h2 (grownSet wr ⟨w.heap.size, 0, none⟩ (.slice yv nv cv)) ?_)
        cases e : (Value.slice yv nv cv).ownBlock with
        | none => exact .inl rfl
        | some g => exact .inr (fun e2 => by have := (World.ownsRow.lt h1 g e).1; injection e2 with e2; have e2 : g = w.heap.size := e2; omega)
      have HB : Hid (Below w.heap.size w (wr.setCell ⟨w.heap.size, 0, none⟩ (.slice yv nv cv))) := hid ((HB4.out.grown hgr.out (by omega) (fun k hk => by injection hk with hk; omega)).setCell (p := ⟨w.heap.size, 0, none⟩) (Nat.le_refl _) (.slice yv nv cv))
      have k2 := World.cell?_setCell_same wr ⟨w.heap.size, 0, none⟩ (.slice yv nv cv) e2
      clear hfr
      go_wp2_with fail
      refine bodyPost_ret (v := .agg #[.slice yv nv cv]) (by simp [results, Tryz.results21, go_sem, k2]) rfl ⟨_, rfl, HF.out, HB.out⟩
end Go.Proofs.YtbimcammjohaoadGreatDoor

namespace Go.Proofs.YtbimcammjohaoadGreatDoor
open Go.ChangeShapes Go.WideShapes Go.ChangeAt Go.RowKit
set_option linter.unusedVariables false
set_option linter.unusedSimpArgs false

def mk3 (k0 c : Nat) (i : Nat) : Int := ((k0 + 3 * i + c : Nat) : Int)

end Go.Proofs.YtbimcammjohaoadGreatDoor
