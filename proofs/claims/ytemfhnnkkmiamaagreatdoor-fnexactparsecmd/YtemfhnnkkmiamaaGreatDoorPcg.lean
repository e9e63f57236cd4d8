import Derived.Test.YtemfhnnkkmiamaaGreatDoorPcf
namespace Go.Proofs.YtemfhnnkkmiamaaGreatDoor
open Go.ChangeShapes Go.WideShapes Go.ChangeAt Go.RowKit
set_option linter.unusedVariables false
set_option linter.unusedSimpArgs false

theorem SO.cells2 {w : World} {B : Nat} {v : Value} {ts : List ByteArray} (h : SO w B v ts) : ∃ g c, v = .slice (some ⟨g, 0, none⟩) ts.length c ∧ g < w.heap.size ∧ ∀ i, i < ts.length → w.cell? ⟨g, i, none⟩ = some (.string (gS ts i)) := by
  obtain ⟨g, c, e, _, _, _, s⟩ := h.cells
  refine ⟨g, c, e, ?_, fun i hi => ?_⟩
  · exact (h.lt g (by rw [e]; rfl)).2
  · rcases s with s | ⟨b, o, e2, _, hc⟩
    · omega
    · injection e2 with e2
      injection e2 with e3 e4
      subst e3 e4
      have := hc i hi
      rwa [Nat.zero_add] at this
theorem below2 (w : World) (o o' : Obj) : Below w.heap.size w ((w.alloc o).alloc o') := ((Below.refl _ _).alloc (Nat.le_refl _) o).alloc (by simp) o'
theorem fm_keys {x : ByteArray} (h : (x.toList == ([107, 101, 121, 115] : List UInt8)) = true) : fmF x = (1, 0, 1, 0) := by
  have e : x.toList = [107, 101, 121, 115] := by simpa using h
  have h2 : hasT wPth x = true := hasT_t (k := 5) (by decide) (by rw [e, Lib.toList_data]; rfl)
  unfold fmF
  rw [h2, e]
  rfl
theorem cut_size {c : UInt8} : ∀ (n : Nat) (s : ByteArray), s.size ≤ n → ∀ x ∈ cutW c s, x.size ≤ s.size := by
  intro n
  induction n with
  | zero =>
    intro s hs x hx
    rcases Lib.indexB_cases s ⟨#[c]⟩ with h | ⟨i, h, hi⟩
    · rw [cut_miss h] at hx; rw [List.mem_singleton.1 hx]; exact Nat.le_refl _
    · have : (⟨#[c]⟩ : ByteArray).size = 1 := rfl
      omega
  | succ n ih =>
    intro s hs x hx
    rcases Lib.indexB_cases s ⟨#[c]⟩ with h | ⟨i, h, hi⟩
    · rw [cut_miss h] at hx; rw [List.mem_singleton.1 hx]; exact Nat.le_refl _
    · have h1 : (⟨#[c]⟩ : ByteArray).size = 1 := rfl
      rw [cut_hit h] at hx
      rcases List.mem_cons.1 hx with e | e
      · rw [e]; simp; omega
      · have := ih (s.extract (i + 1) s.size) (by simp; omega) x e
        simp at this; omega
theorem gS_size {c : UInt8} {s : ByteArray} (k : Nat) : (gS (cutW c s) k).size ≤ s.size := by
  by_cases h : k < (cutW c s).length
  · refine cut_size (c := c) s.size s (Nat.le_refl _) _ ?_
    have : gS (cutW c s) k = (cutW c s)[k] := by simp [gS, List.getD, h]
    rw [this]; exact List.getElem_mem h
  · have : gS (cutW c s) k = ByteArray.empty := by simp [gS, List.getD, h]
    rw [this]; exact Nat.zero_le _

def zC : List Value := [.string ⟨#[]⟩, .int .i64 0, .int .i64 0, .int .i64 0, .int .i64 0, .slice none 0 0, .string ⟨#[]⟩]

structure PS (w w2 wr : World) (gw nW : Nat) (ws : List ByteArray) (cv : List Value) (gv : List Int) : Prop where
  low : Below w.heap.size w wr
  r : BxL wr w.heap.size zC
  n : BxL wr (w.heap.size + 1) zC
  c : BxL wr (w2.heap.size + 1) cv
  g : BxL wr (w2.heap.size + 1 + 1) (gv.map (Value.int .i64))
  wd : ∀ i, i < nW → wr.cell? ⟨gw, i, none⟩ = some (.string (gS ws i))
  hw : w.heap.size + 2 ≤ w2.heap.size
  hg : gw < w2.heap.size
section
variable {w w2 wr w' : World} {gw nW : Nat} {ws : List ByteArray} {cv : List Value} {gv : List Int}
theorem PS.below (h : PS w w2 wr gw nW ws cv gv) (hb : Below wr.heap.size wr w') : PS w w2 w' gw nW ws cv gv :=
  ⟨h.low.trans (hb.mono h.low.size), h.r.below hb, h.n.below hb, h.c.below hb, h.g.below hb, fun i hi => (hb.cell (p := ⟨gw, i, none⟩) (Nat.lt_trans (Nat.lt_trans h.hg (Nat.lt_succ_self _)) h.c.lt)).trans (h.wd i hi), h.hw, h.hg⟩
theorem PS.setG (h : PS w w2 wr gw nW ws cv gv) (i : Nat) (x : Int) (hi : i < gv.length) : PS w w2 (wr.setCell ⟨w2.heap.size + 1 + 1, i, none⟩ (.int .i64 x)) gw nW ws cv (gv.set i x) := by
  have h1 := h.hw
  have h2 := h.hg
  refine ⟨h.low.setCell (by show w.heap.size ≤ w2.heap.size + 1 + 1; omega) _, h.r.setAt _ _ (by show w2.heap.size + 1 + 1 ≠ w.heap.size; omega), h.n.setAt _ _ (by show w2.heap.size + 1 + 1 ≠ w.heap.size + 1; omega), h.c.setAt _ _ (by show w2.heap.size + 1 + 1 ≠ w2.heap.size + 1; omega), ?_, fun j hj => ?_, h.hw, h.hg⟩
  · rw [List.map_set]; exact h.g.set i _ (by rw [List.length_map]; exact hi)
  · rw [World.cell?_setCell_far _ _ _ _ (by show w2.heap.size + 1 + 1 ≠ gw; omega)]; exact h.wd j hj
theorem PS.setC (h : PS w w2 wr gw nW ws cv gv) (i : Nat) (u : Value) (hi : i < cv.length) : PS w w2 (wr.setCell ⟨w2.heap.size + 1, i, none⟩ u) gw nW ws (cv.set i u) gv := by
  have h1 := h.hw
  have h2 := h.hg
  refine ⟨h.low.setCell (by show w.heap.size ≤ w2.heap.size + 1; omega) _, h.r.setAt _ _ (by show w2.heap.size + 1 ≠ w.heap.size; omega), h.n.setAt _ _ (by show w2.heap.size + 1 ≠ w.heap.size + 1; omega), h.c.set i u hi, h.g.setAt _ _ (by show w2.heap.size + 1 ≠ w2.heap.size + 1 + 1; omega), fun j hj => ?_, h.hw, h.hg⟩
  rw [World.cell?_setCell_far _ _ _ _ (by show w2.heap.size + 1 ≠ gw; omega)]; exact h.wd j hj
end
theorem pcS_eq {s : ByteArray} {ws : List ByteArray} {r m p v pt : Nat} (hws : cutW 32 s = ws) (hq : fmF (gS ws 0) = ((r : Int), (m : Int), (p : Int), (v : Int))) (hpt : pcPth ws = (pt : Int)) (hl : (ws.length : Int) = 1 + (r : Int) + (m : Int) + (pt : Int) + (v : Int)) :
    pcS s = if pcOk ws r m = false then none else if (pt : Int) = 1 ∧ hasT (pcP ws r pt) ⟨#[]⟩ = true then none else if (v : Int) = 1 ∧ ((pcV ws v).toList == []) = true then none else some ⟨gS ws 0, (pcG ws r (r + m)).getD 0 0, (pcG ws r (r + m)).getD 1 0, (pcG ws r (r + m)).getD 2 0, (pcG ws r (r + m)).getD 3 0, pcP ws r pt, pcV ws v⟩ := by
  unfold pcS
  rw [hws]
  simp only []
  rw [hpt, hq]
  simp only [Int.toNat_natCast]
  rw [if_neg (by
    rintro (h | h)
    · omega
    · exact h hl)]
theorem pcOk_f {ws : List ByteArray} {r m i : Nat} (hi : i < r + m) (h : pcBad ws r i = true) : pcOk ws r m = false := by
  unfold pcOk
  rw [List.all_eq_false]
  exact ⟨i, List.mem_range.2 hi, by rw [h]; simp⟩
theorem pcOk_t {ws : List ByteArray} {r m : Nat} (h : ∀ j, j < r + m → pcBad ws r j = false) : pcOk ws r m = true := by
  unfold pcOk
  rw [List.all_eq_true]
  intro i hi
  rw [h i (List.mem_range.1 hi)]; rfl
theorem SSeg.setFar {w : World} {a : Option Addr} {p : List ByteArray} (h : SSeg w a p) (q : Addr) (u : Value) (hq : ∀ x, a = some x → q.block ≠ x.block) : SSeg (w.setCell q u) a p :=
  h.imp id (fun ⟨b, off, e, hlt, hc⟩ => ⟨b, off, e, by simp [World.setCell]; exact hlt, fun i hi => by rw [World.cell?_setCell_far _ _ _ _ (show q.block ≠ (⟨b, off + i, none⟩ : Addr).block from hq ⟨b, off, none⟩ e)]; exact hc i hi⟩)
theorem pcG_four (W : List ByteArray) (r k : Nat) : ∃ q0 q1 q2 q3, pcG W r k = [q0, q1, q2, q3] := by
  match h : pcG W r k, pcG_len W r k with
  | [a, b, c, d], _ => exact ⟨a, b, c, d, rfl⟩
set_option maxRecDepth 100000 in
set_option maxHeartbeats 8000000 in
theorem specParse (s : ByteArray) (w : World) (hs : s.size ≤ 1048576) :
    Calls Tryz.prog 4 #[.string s] w fun e w' => ∃ pa pc, e = .returned (.tuple #[.agg #[.string ((pcS s).getD Cm.no).w, .int .i64 ((pcS s).getD Cm.no).a, .int .i64 ((pcS s).getD Cm.no).b, .int .i64 ((pcS s).getD Cm.no).n, .int .i64 ((pcS s).getD Cm.no).x, .slice pa ((pcS s).getD Cm.no).p.length pc, .string ((pcS s).getD Cm.no).v], .bool (pcS s).isSome]) ∧ SSeg w' pa ((pcS s).getD Cm.no).p ∧ Below w.heap.size w w' := by
  obtain ⟨W0, hW0⟩ : ∃ W0, (w.alloc (.cells #[.string ⟨#[]⟩, .int .i64 0, .int .i64 0, .int .i64 0, .int .i64 0, .slice none 0 0, .string ⟨#[]⟩] 24)).alloc (.cells #[.string ⟨#[]⟩, .int .i64 0, .int .i64 0, .int .i64 0, .int .i64 0, .slice none 0 0, .string ⟨#[]⟩] 24) = W0 := ⟨_, rfl⟩
  have b0 : Below w.heap.size w W0 := by rw [← hW0]; exact below2 _ _ _
  have HR0 : Hid (BxL W0 w.heap.size zC) := hid (by rw [← hW0]; exact (BxL.made w zC _).below ((Below.refl _ _).alloc (Nat.le_refl _) _))
  have HN0 : Hid (BxL W0 (w.heap.size + 1) zC) := hid (by
    rw [← hW0]
    have := BxL.made (w.alloc (.cells #[.string ⟨#[]⟩, .int .i64 0, .int .i64 0, .int .i64 0, .int .i64 0, .slice none 0 0, .string ⟨#[]⟩] 24)) zC 24
    rw [show (w.alloc (.cells #[.string ⟨#[]⟩, .int .i64 0, .int .i64 0, .int .i64 0, .int .i64 0, .slice none 0 0, .string ⟨#[]⟩] 24)).heap.size = w.heap.size + 1 by simp] at this
    exact this)
  have HW0 := hid hW0
  have HB0 := hid b0
  have HCT : Hid (Calls Tryz.prog 9 #[.string s, .int .u8 32] W0 fun e w' => ∃ v, e = .returned v ∧ SO w' W0.heap.size v (cutW 32 s) ∧ Below W0.heap.size W0 w') := hid (l7CutC s 32 W0 hs)
  obtain ⟨R, hR⟩ : ∃ R, pcS s = R := ⟨_, rfl⟩
  have HPC := hid hR
  rw [hR]
  obtain ⟨ws, hws⟩ : ∃ ws, cutW 32 s = ws := ⟨_, rfl⟩
  have HWS := hid hws
  have HL1 : Hid (1 ≤ ws.length ∧ ws.length ≤ 1048577) := hid (by rw [← hws]; have h1 := cut_ne 32 s; have h2 := cut_len 32 s; omega)
  rw [hws] at HCT
  clear hW0 b0 hR hws
  go_enter Tryz.func4, Tryz.ntmps4
  go_wp2_with fail
  rw [HW0.out]
  refine HCT.out.mono ?_
  rintro e w1 ⟨v1, rfl, o1, b1⟩
  obtain ⟨gw, cw, rfl, hgw, hcs⟩ := o1.cells2
  obtain ⟨nW, hnW⟩ : ∃ nW, ws.length = nW := ⟨_, rfl⟩
  have HNW := hid hnW
  rw [hnW] at hcs HL1 ⊢
  have HGW := hid hgw
  have HCS := hid hcs
  have HO1 := hid o1
  have HB1 := hid b1
  obtain ⟨x0, hx0⟩ : ∃ x0, gS ws 0 = x0 := ⟨_, rfl⟩
  have HX0 := hid hx0
  have c0 := hcs 0 (by have := HL1.out; omega)
  rw [hx0] at c0
  have i0 : (0 : Int) < (nW : Int) := by have := HL1.out; omega
  have HFM := hid (l7FormC x0 w1)
  clear hgw hcs o1 b1 hx0 hnW HCT
  go_wp2_with fail
  refine HFM.out.mono ?_
  rintro e w2 ⟨rfl, b2⟩
  have HB2 := hid (keepS HB1.out b2)
  have HLW := hid (keepS HB0.out HB2.out)
  have HR2 := hid (HR0.out.below HB2.out)
  have HN2 := hid (HN0.out.below HB2.out)
  have HCS2 : Hid (∀ i, i < nW → w2.cell? ⟨gw, i, none⟩ = some (.string (gS ws i))) := hid (fun i hi => (b2.cell (p := ⟨gw, i, none⟩) HGW.out).trans (HCS.out i hi))
  have HGW2 : Hid (gw < w2.heap.size) := hid (Nat.lt_of_lt_of_le HGW.out b2.size)
  have HP2 : Hid (pcS s = R) := HPC
  have c0 := HCS2.out 0 (by have := HL1.out; omega)
  rw [HX0.out] at c0
  clear b2 HFM HR0 HN0 HCS HO1 HB1 HGW
  rcases fm_cases x0 with hq | ⟨r, m, p, v, hq, hr1, hr2, hm2, hp1, hv1⟩
  · have hk : (x0.toList == ([107, 101, 121, 115] : List UInt8)) = false := by
      cases h : (x0.toList == ([107, 101, 121, 115] : List UInt8)) with
      | false => rfl
      | true => have := fm_keys h; rw [hq] at this; cases this
    have HNO : Hid (R = none) := hid (by
      rw [← HPC.out]
      unfold pcS
      rw [HWS.out]
      simp only []
      rw [HX0.out, hq, if_pos (.inl (by decide))])
    rw [hq]
    have n0 := HN2.out.c 0 _ rfl
    have r0 := HR2.out.c 0 _ rfl
    have n1 := HN2.out.c 1 _ rfl
    have r1 := HR2.out.c 1 _ rfl
    have n2 := HN2.out.c 2 _ rfl
    have r2 := HR2.out.c 2 _ rfl
    have n3 := HN2.out.c 3 _ rfl
    have r3 := HR2.out.c 3 _ rfl
    have n4 := HN2.out.c 4 _ rfl
    have r4 := HR2.out.c 4 _ rfl
    have n5 := HN2.out.c 5 _ rfl
    have r5 := HR2.out.c 5 _ rfl
    have n6 := HN2.out.c 6 _ rfl
    have r6 := HR2.out.c 6 _ rfl
    have rf := HR2.out.f
    have HX := hid ((((((((HR2.out.set 0 (.string ⟨#[]⟩) (by decide)).set 1 (.int .i64 0) (by decide)).set 2 (.int .i64 0) (by decide)).set 3 (.int .i64 0) (by decide)).set 4 (.int .i64 0) (by decide)).set 5 (.slice none 0 0) (by decide)).set 6 (.string ⟨#[]⟩) (by decide)))
    go_wp2_with fail
    have s0 := HX.out.c 0 _ rfl
    have s1 := HX.out.c 1 _ rfl
    have s2 := HX.out.c 2 _ rfl
    have s3 := HX.out.c 3 _ rfl
    have s4 := HX.out.c 4 _ rfl
    have s5 := HX.out.c 5 _ rfl
    have s6 := HX.out.c 6 _ rfl
    refine bodyPost_ret (v := .tuple #[.agg #[.string ⟨#[]⟩, .int .i64 0, .int .i64 0, .int .i64 0, .int .i64 0, .slice none 0 0, .string ⟨#[]⟩], .bool false]) (by simp [results, Tryz.results4, go_sem, s0, s1, s2, s3, s4, s5, s6]) rfl ?_
    rw [HNO.out]
    have G3 := (((((((HLW.out.setCell (p := ⟨w.heap.size, 0, none⟩) (Nat.le_refl _) (.string ⟨#[]⟩)).setCell (p := ⟨w.heap.size, 1, none⟩) (Nat.le_refl _) (.int .i64 0)).setCell (p := ⟨w.heap.size, 2, none⟩) (Nat.le_refl _) (.int .i64 0)).setCell (p := ⟨w.heap.size, 3, none⟩) (Nat.le_refl _) (.int .i64 0)).setCell (p := ⟨w.heap.size, 4, none⟩) (Nat.le_refl _) (.int .i64 0)).setCell (p := ⟨w.heap.size, 5, none⟩) (Nat.le_refl _) (.slice none 0 0)).setCell (p := ⟨w.heap.size, 6, none⟩) (Nat.le_refl _) (.string ⟨#[]⟩))
    first
      | exact ⟨none, 0, rfl, .inl rfl, G3⟩
      | exact ⟨none, ⟨0, rfl⟩, .inl rfl, G3⟩
  · have HQ := hid hq
    rw [hq]
    have hr0 : ¬ (r : Int) < 0 := by omega
    cases hk : (x0.toList == ([107, 101, 121, 115] : List UInt8)) with
    | false =>
      have HPT : Hid (pcPth ws = (p : Int)) := hid (by
        unfold pcPth
        rw [HX0.out]
        show (if (x0.toList == [107, 101, 121, 115] && _) = true then _ else _) = _
        rw [hk, hq]; rfl)
      cases hl : ((nW : Int) != 1 + (r : Int) + (m : Int) + (p : Int) + (v : Int)) with
      | true =>
        have HNO : Hid (R = none) := hid (by
          rw [← HPC.out]
          unfold pcS
          rw [HWS.out]
          simp only []
          rw [HX0.out, HPT.out, HNW.out, hq, if_pos (.inr (by simpa using hl))])
        have n0 := HN2.out.c 0 _ rfl
        have r0 := HR2.out.c 0 _ rfl
        have n1 := HN2.out.c 1 _ rfl
        have r1 := HR2.out.c 1 _ rfl
        have n2 := HN2.out.c 2 _ rfl
        have r2 := HR2.out.c 2 _ rfl
        have n3 := HN2.out.c 3 _ rfl
        have r3 := HR2.out.c 3 _ rfl
        have n4 := HN2.out.c 4 _ rfl
        have r4 := HR2.out.c 4 _ rfl
        have n5 := HN2.out.c 5 _ rfl
        have r5 := HR2.out.c 5 _ rfl
        have n6 := HN2.out.c 6 _ rfl
        have r6 := HR2.out.c 6 _ rfl
        have rf := HR2.out.f
        have HX := hid ((((((((HR2.out.set 0 (.string ⟨#[]⟩) (by decide)).set 1 (.int .i64 0) (by decide)).set 2 (.int .i64 0) (by decide)).set 3 (.int .i64 0) (by decide)).set 4 (.int .i64 0) (by decide)).set 5 (.slice none 0 0) (by decide)).set 6 (.string ⟨#[]⟩) (by decide)))
        go_wp2_with fail
        have s0 := HX.out.c 0 _ rfl
        have s1 := HX.out.c 1 _ rfl
        have s2 := HX.out.c 2 _ rfl
        have s3 := HX.out.c 3 _ rfl
        have s4 := HX.out.c 4 _ rfl
        have s5 := HX.out.c 5 _ rfl
        have s6 := HX.out.c 6 _ rfl
        refine bodyPost_ret (v := .tuple #[.agg #[.string ⟨#[]⟩, .int .i64 0, .int .i64 0, .int .i64 0, .int .i64 0, .slice none 0 0, .string ⟨#[]⟩], .bool false]) (by simp [results, Tryz.results4, go_sem, s0, s1, s2, s3, s4, s5, s6]) rfl ?_
        rw [HNO.out]
        have G3 := (((((((HLW.out.setCell (p := ⟨w.heap.size, 0, none⟩) (Nat.le_refl _) (.string ⟨#[]⟩)).setCell (p := ⟨w.heap.size, 1, none⟩) (Nat.le_refl _) (.int .i64 0)).setCell (p := ⟨w.heap.size, 2, none⟩) (Nat.le_refl _) (.int .i64 0)).setCell (p := ⟨w.heap.size, 3, none⟩) (Nat.le_refl _) (.int .i64 0)).setCell (p := ⟨w.heap.size, 4, none⟩) (Nat.le_refl _) (.int .i64 0)).setCell (p := ⟨w.heap.size, 5, none⟩) (Nat.le_refl _) (.slice none 0 0)).setCell (p := ⟨w.heap.size, 6, none⟩) (Nat.le_refl _) (.string ⟨#[]⟩))
        first
          | exact ⟨none, 0, rfl, .inl rfl, G3⟩
          | exact ⟨none, ⟨0, rfl⟩, .inl rfl, G3⟩
      | false =>
        have HLN : Hid ((nW : Int) = 1 + (r : Int) + (m : Int) + (p : Int) + (v : Int)) := hid (by simpa using hl)
        obtain ⟨W3, hW3⟩ : ∃ W3, ((w2.alloc (.cells #[] 9)).alloc (.cells #[.string x0, .int .i64 0, .int .i64 0, .int .i64 0, .int .i64 0, .slice (some ⟨w2.heap.size, 0, none⟩) 0 0, .string ⟨#[]⟩] 24)).alloc (.cells #[.int .i64 0, .int .i64 0, .int .i64 0, .int .i64 0] 3) = W3 := ⟨_, rfl⟩
        have b3 : Below w2.heap.size w2 W3 := by rw [← hW3]; exact (below2 _ _ _).alloc (by simp; omega) _
        have HZ2 : Hid (w.heap.size + 2 ≤ w2.heap.size) := hid (by
          have h1 := HN2.out.lt
          omega)
        have HPS : Hid (PS w w2 W3 gw nW ws [.string x0, .int .i64 0, .int .i64 0, .int .i64 0, .int .i64 0, .slice (some ⟨w2.heap.size, 0, none⟩) 0 0, .string ⟨#[]⟩] (pcG ws r 0)) := hid (by
          refine ⟨keepS HLW.out b3, HR2.out.below b3, HN2.out.below b3, ?_, ?_, fun i hi => (b3.cell (p := ⟨gw, i, none⟩) HGW2.out).trans (HCS2.out i hi), HZ2.out, HGW2.out⟩
          · rw [← hW3]
            have := BxL.made (w2.alloc (.cells #[] 9)) [.string x0, .int .i64 0, .int .i64 0, .int .i64 0, .int .i64 0, .slice (some ⟨w2.heap.size, 0, none⟩) 0 0, .string ⟨#[]⟩] 24
            rw [show (w2.alloc (.cells #[] 9)).heap.size = w2.heap.size + 1 by simp] at this
            exact this.below ((Below.refl _ _).alloc (Nat.le_refl _) _)
          · rw [← hW3]
            have := BxL.made ((w2.alloc (.cells #[] 9)).alloc (.cells #[.string x0, .int .i64 0, .int .i64 0, .int .i64 0, .int .i64 0, .slice (some ⟨w2.heap.size, 0, none⟩) 0 0, .string ⟨#[]⟩] 24)) [.int .i64 0, .int .i64 0, .int .i64 0, .int .i64 0] 3
            rw [show ((w2.alloc (.cells #[] 9)).alloc (.cells #[.string x0, .int .i64 0, .int .i64 0, .int .i64 0, .int .i64 0, .slice (some ⟨w2.heap.size, 0, none⟩) 0 0, .string ⟨#[]⟩] 24)).heap.size = w2.heap.size + 1 + 1 by simp] at this
            exact this)
        have HEQ := hid (pcS_eq (pt := p) HWS.out (by rw [HX0.out]; exact hq) HPT.out (by rw [HNW.out]; exact HLN.out))
        have HW3 := hid hW3
        clear b3 hW3 HR2 HN2 HCS2
        go_wp2_with fail
        rw [HW3.out]
        clear c0
        go_loopw [12] (fun i wr => ∃ k : Nat, k ≤ r + m ∧ i = .int .i64 k ∧ Hid (∀ j, j < k → pcBad ws r j = false) ∧ Hid (PS w w2 wr gw nW ws [.string x0, .int .i64 0, .int .i64 0, .int .i64 0, .int .i64 0, .slice (some ⟨w2.heap.size, 0, none⟩) 0 0, .string ⟨#[]⟩] (pcG ws r k))) (fun i _ => r + m - (intOf i).toNat)
        case atStart => exact ⟨0, Nat.zero_le _, rfl, hid (fun j hj => by omega), HPS⟩
        case round =>
          clear HPS
          obtain ⟨k, hk1, rfl, HOK, HS⟩ := hrel
          by_cases hlt : k < r + m
          · have i1 : (0 : Int) ≤ 1 + (k : Int) := by omega
            have i2 : 1 + (k : Int) < (nW : Int) := by have := HLN.out; omega
            have i3 : (k : Int) < (r : Int) + (m : Int) := by omega
            have c1 := HS.out.wd (1 + k) (by have := HLN.out; omega)
            have hsz : (gS ws (1 + k)).size ≤ 1048576 := by rw [← HWS.out]; exact Nat.le_trans (gS_size _) hs
            have HV : Hid (pcN ws r k = if k < r then decF (gS ws (1 + k)) 1 else decF (gS ws (1 + k)) 5) := hid rfl
            obtain ⟨y, hy⟩ : ∃ y, gS ws (1 + k) = y := ⟨_, rfl⟩
            rw [hy] at c1 hsz HV
            have HD5 := hid (l7DecimalC y 5 wr hsz (by omega))
            have HD1 := hid (l7DecimalC y 1 wr hsz (by omega))
            obtain ⟨d5, hd5⟩ : ∃ d5, decF y 5 = d5 := ⟨_, rfl⟩
            obtain ⟨d1, hd1⟩ : ∃ d1, decF y 1 = d1 := ⟨_, rfl⟩
            rw [hd5] at HD5 HV
            rw [hd1] at HD1 HV
            clear hd5 hd1 hy hsz
            go_wp2_with fail
            refine HD5.out.mono ?_
            rintro e w' ⟨rfl, hw'⟩
            obtain rfl : wr = w' := hw'.symm
            clear HD5
            by_cases hkr : k < r
            · have j1 : (k : Int) < (r : Int) := by omega
              rw [if_pos hkr] at HV
              have HKK : Hid (pcK r k = k) := hid (by unfold pcK; rw [if_pos hkr])
              go_wp2_with fail
              refine HD1.out.mono ?_
              rintro e w' ⟨rfl, hw'⟩
              obtain rfl : wr = w' := hw'.symm
              clear HD1
              by_cases hb0 : d1 < 0
              · have HNO : Hid (R = none) := hid (by rw [← HPC.out, HEQ.out, if_pos (pcOk_f hlt (by unfold pcBad; rw [HV.out]; simp [hb0]))])
                have n0 := HS.out.n.c 0 _ rfl
                have r0 := HS.out.r.c 0 _ rfl
                have n1 := HS.out.n.c 1 _ rfl
                have r1 := HS.out.r.c 1 _ rfl
                have n2 := HS.out.n.c 2 _ rfl
                have r2 := HS.out.r.c 2 _ rfl
                have n3 := HS.out.n.c 3 _ rfl
                have r3 := HS.out.r.c 3 _ rfl
                have n4 := HS.out.n.c 4 _ rfl
                have r4 := HS.out.r.c 4 _ rfl
                have n5 := HS.out.n.c 5 _ rfl
                have r5 := HS.out.r.c 5 _ rfl
                have n6 := HS.out.n.c 6 _ rfl
                have r6 := HS.out.r.c 6 _ rfl
                have rf := HS.out.r.f
                have HX := hid ((((((((HS.out.r.set 0 (.string ⟨#[]⟩) (by decide)).set 1 (.int .i64 0) (by decide)).set 2 (.int .i64 0) (by decide)).set 3 (.int .i64 0) (by decide)).set 4 (.int .i64 0) (by decide)).set 5 (.slice none 0 0) (by decide)).set 6 (.string ⟨#[]⟩) (by decide)))
                go_wp2_with fail
                have s0 := HX.out.c 0 _ rfl
                have s1 := HX.out.c 1 _ rfl
                have s2 := HX.out.c 2 _ rfl
                have s3 := HX.out.c 3 _ rfl
                have s4 := HX.out.c 4 _ rfl
                have s5 := HX.out.c 5 _ rfl
                have s6 := HX.out.c 6 _ rfl
                refine bodyPost_ret (v := .tuple #[.agg #[.string ⟨#[]⟩, .int .i64 0, .int .i64 0, .int .i64 0, .int .i64 0, .slice none 0 0, .string ⟨#[]⟩], .bool false]) (by simp [results, Tryz.results4, go_sem, s0, s1, s2, s3, s4, s5, s6]) rfl ?_
                rw [HNO.out]
                have G3 := (((((((HS.out.low.setCell (p := ⟨w.heap.size, 0, none⟩) (Nat.le_refl _) (.string ⟨#[]⟩)).setCell (p := ⟨w.heap.size, 1, none⟩) (Nat.le_refl _) (.int .i64 0)).setCell (p := ⟨w.heap.size, 2, none⟩) (Nat.le_refl _) (.int .i64 0)).setCell (p := ⟨w.heap.size, 3, none⟩) (Nat.le_refl _) (.int .i64 0)).setCell (p := ⟨w.heap.size, 4, none⟩) (Nat.le_refl _) (.int .i64 0)).setCell (p := ⟨w.heap.size, 5, none⟩) (Nat.le_refl _) (.slice none 0 0)).setCell (p := ⟨w.heap.size, 6, none⟩) (Nat.le_refl _) (.string ⟨#[]⟩))
                first
                  | exact ⟨none, 0, rfl, .inl rfl, G3⟩
                  | exact ⟨none, ⟨0, rfl⟩, .inl rfl, G3⟩
              · by_cases hb7 : d1 > 7
                · have HNO : Hid (R = none) := hid (by rw [← HPC.out, HEQ.out, if_pos (pcOk_f hlt (by unfold pcBad; rw [HV.out, decide_eq_true hkr, decide_eq_true hb7]; simp))])
                  have hb7' : 7 < d1 := hb7
                  have n0 := HS.out.n.c 0 _ rfl
                  have r0 := HS.out.r.c 0 _ rfl
                  have n1 := HS.out.n.c 1 _ rfl
                  have r1 := HS.out.r.c 1 _ rfl
                  have n2 := HS.out.n.c 2 _ rfl
                  have r2 := HS.out.r.c 2 _ rfl
                  have n3 := HS.out.n.c 3 _ rfl
                  have r3 := HS.out.r.c 3 _ rfl
                  have n4 := HS.out.n.c 4 _ rfl
                  have r4 := HS.out.r.c 4 _ rfl
                  have n5 := HS.out.n.c 5 _ rfl
                  have r5 := HS.out.r.c 5 _ rfl
                  have n6 := HS.out.n.c 6 _ rfl
                  have r6 := HS.out.r.c 6 _ rfl
                  have rf := HS.out.r.f
                  have HX := hid ((((((((HS.out.r.set 0 (.string ⟨#[]⟩) (by decide)).set 1 (.int .i64 0) (by decide)).set 2 (.int .i64 0) (by decide)).set 3 (.int .i64 0) (by decide)).set 4 (.int .i64 0) (by decide)).set 5 (.slice none 0 0) (by decide)).set 6 (.string ⟨#[]⟩) (by decide)))
                  go_wp2_with fail
                  have s0 := HX.out.c 0 _ rfl
                  have s1 := HX.out.c 1 _ rfl
                  have s2 := HX.out.c 2 _ rfl
                  have s3 := HX.out.c 3 _ rfl
                  have s4 := HX.out.c 4 _ rfl
                  have s5 := HX.out.c 5 _ rfl
                  have s6 := HX.out.c 6 _ rfl
                  refine bodyPost_ret (v := .tuple #[.agg #[.string ⟨#[]⟩, .int .i64 0, .int .i64 0, .int .i64 0, .int .i64 0, .slice none 0 0, .string ⟨#[]⟩], .bool false]) (by simp [results, Tryz.results4, go_sem, s0, s1, s2, s3, s4, s5, s6]) rfl ?_
                  rw [HNO.out]
                  have G3 := (((((((HS.out.low.setCell (p := ⟨w.heap.size, 0, none⟩) (Nat.le_refl _) (.string ⟨#[]⟩)).setCell (p := ⟨w.heap.size, 1, none⟩) (Nat.le_refl _) (.int .i64 0)).setCell (p := ⟨w.heap.size, 2, none⟩) (Nat.le_refl _) (.int .i64 0)).setCell (p := ⟨w.heap.size, 3, none⟩) (Nat.le_refl _) (.int .i64 0)).setCell (p := ⟨w.heap.size, 4, none⟩) (Nat.le_refl _) (.int .i64 0)).setCell (p := ⟨w.heap.size, 5, none⟩) (Nat.le_refl _) (.slice none 0 0)).setCell (p := ⟨w.heap.size, 6, none⟩) (Nat.le_refl _) (.string ⟨#[]⟩))
                  first
                    | exact ⟨none, 0, rfl, .inl rfl, G3⟩
                    | exact ⟨none, ⟨0, rfl⟩, .inl rfl, G3⟩
                · have hb7' : d1 ≤ 7 := by omega
                  have hb0' : 0 ≤ d1 := by omega
                  have k3 : ((k : Int) == 3) = false := by rw [beq_eq_false_iff_ne]; omega
                  have HOK2 : Hid (∀ j, j < k + 1 → pcBad ws r j = false) := hid (fun j hj => by
                    by_cases e : j = k
                    · rw [e]; unfold pcBad; rw [HV.out, HKK.out, decide_eq_false hb0, decide_eq_false hb7, decide_eq_false (show ¬ k = 3 by omega)]; simp
                    · exact HOK.out j (by omega))
                  have HS2 : Hid (PS w w2 (wr.setCell ⟨w2.heap.size + 1 + 1, k, none⟩ (.int .i64 d1)) gw nW ws [.string x0, .int .i64 0, .int .i64 0, .int .i64 0, .int .i64 0, .slice (some ⟨w2.heap.size, 0, none⟩) 0 0, .string ⟨#[]⟩] (pcG ws r (k + 1))) := hid (by
                    show PS _ _ _ _ _ _ _ ((pcG ws r k).set (pcK r k) (pcN ws r k))
                    rw [HKK.out, HV.out]
                    exact HS.out.setG k d1 (by rw [pcG_len]; omega))
                  have g0 := HS.out.g.c k (.int .i64 ((pcG ws r k).getD k 0)) (by simp [List.getD, show k < (pcG ws r k).length by rw [pcG_len]; omega])
                  have gf := HS.out.g.f
                  have i4 : (0 : Int) ≤ (k : Int) := by omega
                  have i5 : (k : Int) < 4 := by omega
                  clear HS HOK HV hb0 hb7 c1
                  go_wp2_with fail
                  go_roundw
                  case rel => exact ⟨k + 1, hlt, by go_num, HOK2, HS2⟩
                  case measure => simp [intOf]; omega
            · have j1 : ¬ (k : Int) < (r : Int) := by omega
              rw [if_neg hkr] at HV
              obtain ⟨kn, hkn⟩ : ∃ kn : Nat, 2 + (k : Int) - (r : Int) = (kn : Int) := ⟨2 + k - r, by omega⟩
              have HKN : Hid (pcK r k = kn) := hid (by unfold pcK; rw [if_neg hkr]; omega)
              have hkn4 : kn < 4 := by omega
              clear HD1
              by_cases hb0 : d5 < 0
              · have HNO : Hid (R = none) := hid (by rw [← HPC.out, HEQ.out, if_pos (pcOk_f hlt (by unfold pcBad; rw [HV.out]; simp [hb0]))])
                have n0 := HS.out.n.c 0 _ rfl
                have r0 := HS.out.r.c 0 _ rfl
                have n1 := HS.out.n.c 1 _ rfl
                have r1 := HS.out.r.c 1 _ rfl
                have n2 := HS.out.n.c 2 _ rfl
                have r2 := HS.out.r.c 2 _ rfl
                have n3 := HS.out.n.c 3 _ rfl
                have r3 := HS.out.r.c 3 _ rfl
                have n4 := HS.out.n.c 4 _ rfl
                have r4 := HS.out.r.c 4 _ rfl
                have n5 := HS.out.n.c 5 _ rfl
                have r5 := HS.out.r.c 5 _ rfl
                have n6 := HS.out.n.c 6 _ rfl
                have r6 := HS.out.r.c 6 _ rfl
                have rf := HS.out.r.f
                have HX := hid ((((((((HS.out.r.set 0 (.string ⟨#[]⟩) (by decide)).set 1 (.int .i64 0) (by decide)).set 2 (.int .i64 0) (by decide)).set 3 (.int .i64 0) (by decide)).set 4 (.int .i64 0) (by decide)).set 5 (.slice none 0 0) (by decide)).set 6 (.string ⟨#[]⟩) (by decide)))
                go_wp2_with fail
                have s0 := HX.out.c 0 _ rfl
                have s1 := HX.out.c 1 _ rfl
                have s2 := HX.out.c 2 _ rfl
                have s3 := HX.out.c 3 _ rfl
                have s4 := HX.out.c 4 _ rfl
                have s5 := HX.out.c 5 _ rfl
                have s6 := HX.out.c 6 _ rfl
                refine bodyPost_ret (v := .tuple #[.agg #[.string ⟨#[]⟩, .int .i64 0, .int .i64 0, .int .i64 0, .int .i64 0, .slice none 0 0, .string ⟨#[]⟩], .bool false]) (by simp [results, Tryz.results4, go_sem, s0, s1, s2, s3, s4, s5, s6]) rfl ?_
                rw [HNO.out]
                have G3 := (((((((HS.out.low.setCell (p := ⟨w.heap.size, 0, none⟩) (Nat.le_refl _) (.string ⟨#[]⟩)).setCell (p := ⟨w.heap.size, 1, none⟩) (Nat.le_refl _) (.int .i64 0)).setCell (p := ⟨w.heap.size, 2, none⟩) (Nat.le_refl _) (.int .i64 0)).setCell (p := ⟨w.heap.size, 3, none⟩) (Nat.le_refl _) (.int .i64 0)).setCell (p := ⟨w.heap.size, 4, none⟩) (Nat.le_refl _) (.int .i64 0)).setCell (p := ⟨w.heap.size, 5, none⟩) (Nat.le_refl _) (.slice none 0 0)).setCell (p := ⟨w.heap.size, 6, none⟩) (Nat.le_refl _) (.string ⟨#[]⟩))
                first
                  | exact ⟨none, 0, rfl, .inl rfl, G3⟩
                  | exact ⟨none, ⟨0, rfl⟩, .inl rfl, G3⟩
              · have hb0' : 0 ≤ d5 := by omega
                by_cases hb3 : kn = 3 ∧ d5 > 255
                · have HNO : Hid (R = none) := hid (by rw [← HPC.out, HEQ.out, if_pos (pcOk_f hlt (by unfold pcBad; rw [HV.out, HKN.out, decide_eq_true hb3.1, decide_eq_true hb3.2]; simp))])
                  have k3 : ((kn : Int) == 3) = true := by rw [hb3.1]; rfl
                  have hb7' : 255 < d5 := hb3.2
                  have n0 := HS.out.n.c 0 _ rfl
                  have r0 := HS.out.r.c 0 _ rfl
                  have n1 := HS.out.n.c 1 _ rfl
                  have r1 := HS.out.r.c 1 _ rfl
                  have n2 := HS.out.n.c 2 _ rfl
                  have r2 := HS.out.r.c 2 _ rfl
                  have n3 := HS.out.n.c 3 _ rfl
                  have r3 := HS.out.r.c 3 _ rfl
                  have n4 := HS.out.n.c 4 _ rfl
                  have r4 := HS.out.r.c 4 _ rfl
                  have n5 := HS.out.n.c 5 _ rfl
                  have r5 := HS.out.r.c 5 _ rfl
                  have n6 := HS.out.n.c 6 _ rfl
                  have r6 := HS.out.r.c 6 _ rfl
                  have rf := HS.out.r.f
                  have HX := hid ((((((((HS.out.r.set 0 (.string ⟨#[]⟩) (by decide)).set 1 (.int .i64 0) (by decide)).set 2 (.int .i64 0) (by decide)).set 3 (.int .i64 0) (by decide)).set 4 (.int .i64 0) (by decide)).set 5 (.slice none 0 0) (by decide)).set 6 (.string ⟨#[]⟩) (by decide)))
                  go_wp2_with fail
                  have s0 := HX.out.c 0 _ rfl
                  have s1 := HX.out.c 1 _ rfl
                  have s2 := HX.out.c 2 _ rfl
                  have s3 := HX.out.c 3 _ rfl
                  have s4 := HX.out.c 4 _ rfl
                  have s5 := HX.out.c 5 _ rfl
                  have s6 := HX.out.c 6 _ rfl
                  refine bodyPost_ret (v := .tuple #[.agg #[.string ⟨#[]⟩, .int .i64 0, .int .i64 0, .int .i64 0, .int .i64 0, .slice none 0 0, .string ⟨#[]⟩], .bool false]) (by simp [results, Tryz.results4, go_sem, s0, s1, s2, s3, s4, s5, s6]) rfl ?_
                  rw [HNO.out]
                  have G3 := (((((((HS.out.low.setCell (p := ⟨w.heap.size, 0, none⟩) (Nat.le_refl _) (.string ⟨#[]⟩)).setCell (p := ⟨w.heap.size, 1, none⟩) (Nat.le_refl _) (.int .i64 0)).setCell (p := ⟨w.heap.size, 2, none⟩) (Nat.le_refl _) (.int .i64 0)).setCell (p := ⟨w.heap.size, 3, none⟩) (Nat.le_refl _) (.int .i64 0)).setCell (p := ⟨w.heap.size, 4, none⟩) (Nat.le_refl _) (.int .i64 0)).setCell (p := ⟨w.heap.size, 5, none⟩) (Nat.le_refl _) (.slice none 0 0)).setCell (p := ⟨w.heap.size, 6, none⟩) (Nat.le_refl _) (.string ⟨#[]⟩))
                  first
                    | exact ⟨none, 0, rfl, .inl rfl, G3⟩
                    | exact ⟨none, ⟨0, rfl⟩, .inl rfl, G3⟩
                · have HOK2 : Hid (∀ j, j < k + 1 → pcBad ws r j = false) := hid (fun j hj => by
                    by_cases e : j = k
                    · rw [e]; unfold pcBad; rw [HV.out, HKN.out, decide_eq_false hb0, decide_eq_false hkr]
                      by_cases e3 : kn = 3
                      · rw [decide_eq_false (fun h => hb3 ⟨e3, h⟩)]; simp
                      · rw [decide_eq_false e3]; simp
                    · exact HOK.out j (by omega))
                  have HS2 : Hid (PS w w2 (wr.setCell ⟨w2.heap.size + 1 + 1, kn, none⟩ (.int .i64 d5)) gw nW ws [.string x0, .int .i64 0, .int .i64 0, .int .i64 0, .int .i64 0, .slice (some ⟨w2.heap.size, 0, none⟩) 0 0, .string ⟨#[]⟩] (pcG ws r (k + 1))) := hid (by
                    show PS _ _ _ _ _ _ _ ((pcG ws r k).set (pcK r k) (pcN ws r k))
                    rw [HKN.out, HV.out]
                    exact HS.out.setG kn d5 (by rw [pcG_len]; omega))
                  have g0 := HS.out.g.c kn (.int .i64 ((pcG ws r k).getD kn 0)) (by simp [List.getD, show kn < (pcG ws r k).length by rw [pcG_len]; omega])
                  have gf := HS.out.g.f
                  have i4 : (0 : Int) ≤ (kn : Int) := by omega
                  have i5 : (kn : Int) < 4 := by omega
                  by_cases e3 : kn = 3
                  · have k3 : ((kn : Int) == 3) = true := by rw [e3]; rfl
                    have hb7' : d5 ≤ 255 := by
                      have : ¬ d5 > 255 := fun h => hb3 ⟨e3, h⟩
                      omega
                    clear HS HOK HV hb0 hb3 c1 e3
                    go_wp2_with fail
                    go_roundw
                    case rel => exact ⟨k + 1, hlt, by go_num, HOK2, HS2⟩
                    case measure => simp [intOf]; omega
                  · have k3 : ((kn : Int) == 3) = false := by rw [beq_eq_false_iff_ne]; omega
                    clear HS HOK HV hb0 hb3 c1
                    go_wp2_with fail
                    go_roundw
                    case rel => exact ⟨k + 1, hlt, by go_num, HOK2, HS2⟩
                    case measure => simp [intOf]; omega
          · have HKE : Hid (k = r + m) := hid (by omega)
            have i3 : ¬ (k : Int) < (r : Int) + (m : Int) := by omega
            have HOKT : Hid (pcOk ws r m = true) := hid (pcOk_t (fun j hj => HOK.out j (by omega)))
            obtain ⟨q0, q1, q2, q3, hG⟩ := pcG_four ws r k
            rw [hG] at HS
            rw [HKE.out] at hG
            have HG := hid hG
            have g0 := HS.out.g.c 0 (.int .i64 q0) rfl
            have g1 := HS.out.g.c 1 (.int .i64 q1) rfl
            have g2 := HS.out.g.c 2 (.int .i64 q2) rfl
            have g3 := HS.out.g.c 3 (.int .i64 q3) rfl
            have d1 := HS.out.c.c 1 _ rfl
            have d2 := HS.out.c.c 2 _ rfl
            have d3 := HS.out.c.c 3 _ rfl
            have d4 := HS.out.c.c 4 _ rfl
            have cf := HS.out.c.f
            obtain ⟨w4, hw4⟩ : ∃ w4, ((((wr.setCell ⟨w2.heap.size + 1, 1, none⟩ (.int .i64 q0)).setCell ⟨w2.heap.size + 1, 2, none⟩ (.int .i64 q1)).setCell ⟨w2.heap.size + 1, 3, none⟩ (.int .i64 q2)).setCell ⟨w2.heap.size + 1, 4, none⟩ (.int .i64 q3)) = w4 := ⟨_, rfl⟩
            have HS4 : Hid (PS w w2 w4 gw nW ws [.string x0, .int .i64 q0, .int .i64 q1, .int .i64 q2, .int .i64 q3, .slice (some ⟨w2.heap.size, 0, none⟩) 0 0, .string ⟨#[]⟩] [q0, q1, q2, q3]) := hid (by rw [← hw4]; exact ((((HS.out.setC 1 (.int .i64 q0) (by simp)).setC 2 (.int .i64 q1) (by simp)).setC 3 (.int .i64 q2) (by simp)).setC 4 (.int .i64 q3) (by simp)))
            have HW4 := hid hw4
            clear hw4 HOK HS hG hk1
            by_cases hp : p = 1
            · have hp' : ((p : Int) == 1) = true := by rw [hp]; rfl
              have i6 : (0 : Int) ≤ 1 + (r : Int) := by omega
              have i7 : 1 + (r : Int) < (nW : Int) := by have := HLN.out; omega
              have hsz : (gS ws (1 + r)).size ≤ 1048576 := by rw [← HWS.out]; exact Nat.le_trans (gS_size _) hs
              have c5 := HS4.out.wd (1 + r) (by have := HLN.out; omega)
              have HPP : Hid (pcP ws r (p : Int) = cutW 47 (gS ws (1 + r))) := hid (by unfold pcP; rw [if_pos (by omega)])
              obtain ⟨y, hy⟩ : ∃ y, gS ws (1 + r) = y := ⟨_, rfl⟩
              rw [hy] at c5 hsz HPP
              have HC : Hid (Calls Tryz.prog 9 #[.string y, .int .u8 47] w4 fun e w' => ∃ v, e = .returned v ∧ SO w' w4.heap.size v (cutW 47 y) ∧ Below w4.heap.size w4 w') := hid (l7CutC y 47 w4 hsz)
              have HPL : Hid ((cutW 47 y).length ≤ 4194304) := hid (by have := cut_len 47 y; omega)
              obtain ⟨pl, hpl⟩ : ∃ pl, cutW 47 y = pl := ⟨_, rfl⟩
              rw [hpl] at HC HPP HPL
              have hw4 := HW4.out
              clear hpl hy hsz
              go_wp2_with fail
              refine HC.out.mono ?_
              rintro e w5 ⟨v5, rfl, o5, b5⟩
              obtain ⟨g5, c5, rfl, hg5, hcs5⟩ := o5.cells2
              have hB5 : w4.heap.size ≤ g5 := (o5.lt g5 rfl).1
              obtain ⟨pn, hpn⟩ : ∃ pn, pl.length = pn := ⟨_, rfl⟩
              have HPN := hid hpn
              rw [hpn] at hcs5 ⊢
              have HS5 := hid (HS4.out.below b5)
              have HF5 : Hid (w2.heap.size + 1 < g5) := hid (Nat.lt_of_lt_of_le HS4.out.c.lt hB5)
              have HZW : Hid (w.heap.size + 2 ≤ w2.heap.size) := hid HS4.out.hw
              have HFAR : Hid (∀ x, (some ⟨g5, 0, none⟩ : Option Addr) = some x → w.heap.size ≠ x.block) := hid (fun x hx => by
                injection hx with hx
                subst hx
                have h1 := HF5.out
                have h2 := HZW.out
                show w.heap.size ≠ g5
                omega)
              have HFAR2 : Hid (∀ x, (some ⟨g5, 0, none⟩ : Option Addr) = some x → w2.heap.size + 1 ≠ x.block) := hid (fun x hx => by
                injection hx with hx
                subst hx
                have h1 := HF5.out
                show w2.heap.size + 1 ≠ g5
                omega)
              have HSG5 : Hid (SSeg w5 (some ⟨g5, 0, none⟩) pl) := hid (.inr ⟨g5, 0, rfl, hg5, fun i hi => by rw [Nat.zero_add]; exact hcs5 i (by rw [← HPN.out]; exact hi)⟩)
              have o5' := HS5.out.c.c 5 _ rfl
              have f5 := HS5.out.c.f
              obtain ⟨w6, hw6⟩ : ∃ w6, w5.setCell ⟨w2.heap.size + 1, 5, none⟩ (.slice (some ⟨g5, 0, none⟩) pn c5) = w6 := ⟨_, rfl⟩
              have HS6 : Hid (PS w w2 w6 gw nW ws [.string x0, .int .i64 q0, .int .i64 q1, .int .i64 q2, .int .i64 q3, .slice (some ⟨g5, 0, none⟩) pn c5, .string ⟨#[]⟩] [q0, q1, q2, q3]) := hid (by rw [← hw6]; exact HS5.out.setC 5 _ (by simp))
              have HSG6 : Hid (SSeg w6 (some ⟨g5, 0, none⟩) pl) := hid (by rw [← hw6]; exact HSG5.out.setFar _ _ HFAR2.out)
              have HH := hid (l7HasC (some ⟨g5, 0, none⟩) c5 pl ⟨#[]⟩ w6 HPL.out HSG6.out)
              rw [HPN.out] at HH
              obtain ⟨hb, hhb⟩ : ∃ hb, hasT pl ⟨#[]⟩ = hb := ⟨_, rfl⟩
              rw [hhb] at HH
              have HHB := hid hhb
              have n5 := HS6.out.c.c 5 _ rfl
              clear hw4 HC HS4 HW4 HSG5 HS5 hcs5 hg5 hB5 o5 b5 hpn hhb
              go_wp2_with fail
              refine HH.out.mono ?_
              rintro e w' ⟨rfl, hw'⟩
              obtain rfl : w6 = w' := hw'.symm
              clear HH hw6 n5 o5' f5
              cases hb with
              | true =>
                have HNO : Hid (R = none) := hid (by rw [← HPC.out, HEQ.out, if_neg (by rw [HOKT.out]; simp), if_pos ⟨by omega, by rw [HPP.out]; exact HHB.out⟩])
                have n0 := HS6.out.n.c 0 _ rfl
                have r0 := HS6.out.r.c 0 _ rfl
                have n1 := HS6.out.n.c 1 _ rfl
                have r1 := HS6.out.r.c 1 _ rfl
                have n2 := HS6.out.n.c 2 _ rfl
                have r2 := HS6.out.r.c 2 _ rfl
                have n3 := HS6.out.n.c 3 _ rfl
                have r3 := HS6.out.r.c 3 _ rfl
                have n4 := HS6.out.n.c 4 _ rfl
                have r4 := HS6.out.r.c 4 _ rfl
                have n5 := HS6.out.n.c 5 _ rfl
                have r5 := HS6.out.r.c 5 _ rfl
                have n6 := HS6.out.n.c 6 _ rfl
                have r6 := HS6.out.r.c 6 _ rfl
                have rf := HS6.out.r.f
                have HX := hid ((((((((HS6.out.r.set 0 (.string ⟨#[]⟩) (by decide)).set 1 (.int .i64 0) (by decide)).set 2 (.int .i64 0) (by decide)).set 3 (.int .i64 0) (by decide)).set 4 (.int .i64 0) (by decide)).set 5 (.slice none 0 0) (by decide)).set 6 (.string ⟨#[]⟩) (by decide)))
                go_wp2_with fail
                have s0 := HX.out.c 0 _ rfl
                have s1 := HX.out.c 1 _ rfl
                have s2 := HX.out.c 2 _ rfl
                have s3 := HX.out.c 3 _ rfl
                have s4 := HX.out.c 4 _ rfl
                have s5 := HX.out.c 5 _ rfl
                have s6 := HX.out.c 6 _ rfl
                refine bodyPost_ret (v := .tuple #[.agg #[.string ⟨#[]⟩, .int .i64 0, .int .i64 0, .int .i64 0, .int .i64 0, .slice none 0 0, .string ⟨#[]⟩], .bool false]) (by simp [results, Tryz.results4, go_sem, s0, s1, s2, s3, s4, s5, s6]) rfl ?_
                rw [HNO.out]
                have G3 := (((((((HS6.out.low.setCell (p := ⟨w.heap.size, 0, none⟩) (Nat.le_refl _) (.string ⟨#[]⟩)).setCell (p := ⟨w.heap.size, 1, none⟩) (Nat.le_refl _) (.int .i64 0)).setCell (p := ⟨w.heap.size, 2, none⟩) (Nat.le_refl _) (.int .i64 0)).setCell (p := ⟨w.heap.size, 3, none⟩) (Nat.le_refl _) (.int .i64 0)).setCell (p := ⟨w.heap.size, 4, none⟩) (Nat.le_refl _) (.int .i64 0)).setCell (p := ⟨w.heap.size, 5, none⟩) (Nat.le_refl _) (.slice none 0 0)).setCell (p := ⟨w.heap.size, 6, none⟩) (Nat.le_refl _) (.string ⟨#[]⟩))
                first
                  | exact ⟨none, 0, rfl, .inl rfl, G3⟩
                  | exact ⟨none, ⟨0, rfl⟩, .inl rfl, G3⟩
              | false =>
                by_cases hv : v = 1
                · have hv' : ((v : Int) == 1) = true := by rw [hv]; rfl
                  obtain ⟨l, hl⟩ : ∃ l : Nat, (nW : Int) - 1 = (l : Int) := ⟨nW - 1, by have := HL1.out; omega⟩
                  have hl1 : (0 : Int) ≤ (l : Int) := by omega
                  have hl2 : (l : Int) < (nW : Int) := by omega
                  have hl3 : (l : Int) ≤ 1048577 := by have := HL1.out; omega
                  have c6 := HS6.out.wd l (by omega)
                  have HPV0 : Hid (pcV ws (v : Int) = gS ws l) := hid (by
                    unfold pcV
                    rw [if_pos (by omega), HNW.out, show nW - 1 = l by omega])
                  obtain ⟨z, hz⟩ : ∃ z, gS ws l = z := ⟨_, rfl⟩
                  rw [hz] at c6 HPV0
                  have HPV := HPV0
                  have o6 := HS6.out.c.c 6 _ rfl
                  have f6 := HS6.out.c.f
                  have HZ : Hid (PS w w2 (w6.setCell ⟨w2.heap.size + 1, 6, none⟩ (.string z)) gw nW ws [.string x0, .int .i64 q0, .int .i64 q1, .int .i64 q2, .int .i64 q3, .slice (some ⟨g5, 0, none⟩) pn c5, .string z] [q0, q1, q2, q3]) := hid (HS6.out.setC 6 (.string z) (by simp))
                  clear hz HPV0
                  cases hz : (z.toList == ([] : List UInt8)) with
                  | true =>
                    have HNO : Hid (R = none) := hid (by rw [← HPC.out, HEQ.out, if_neg (by rw [HOKT.out]; simp), if_neg (by rintro ⟨_, h⟩; rw [HPP.out, HHB.out] at h; cases h), if_pos ⟨by rw [hv]; rfl, by rw [HPV.out]; exact hz⟩])
                    have n0 := HZ.out.n.c 0 _ rfl
                    have r0 := HZ.out.r.c 0 _ rfl
                    have n1 := HZ.out.n.c 1 _ rfl
                    have r1 := HZ.out.r.c 1 _ rfl
                    have n2 := HZ.out.n.c 2 _ rfl
                    have r2 := HZ.out.r.c 2 _ rfl
                    have n3 := HZ.out.n.c 3 _ rfl
                    have r3 := HZ.out.r.c 3 _ rfl
                    have n4 := HZ.out.n.c 4 _ rfl
                    have r4 := HZ.out.r.c 4 _ rfl
                    have n5 := HZ.out.n.c 5 _ rfl
                    have r5 := HZ.out.r.c 5 _ rfl
                    have n6 := HZ.out.n.c 6 _ rfl
                    have r6 := HZ.out.r.c 6 _ rfl
                    have rf := HZ.out.r.f
                    have HX := hid ((((((((HZ.out.r.set 0 (.string ⟨#[]⟩) (by decide)).set 1 (.int .i64 0) (by decide)).set 2 (.int .i64 0) (by decide)).set 3 (.int .i64 0) (by decide)).set 4 (.int .i64 0) (by decide)).set 5 (.slice none 0 0) (by decide)).set 6 (.string ⟨#[]⟩) (by decide)))
                    go_wp2_with fail
                    have s0 := HX.out.c 0 _ rfl
                    have s1 := HX.out.c 1 _ rfl
                    have s2 := HX.out.c 2 _ rfl
                    have s3 := HX.out.c 3 _ rfl
                    have s4 := HX.out.c 4 _ rfl
                    have s5 := HX.out.c 5 _ rfl
                    have s6 := HX.out.c 6 _ rfl
                    refine bodyPost_ret (v := .tuple #[.agg #[.string ⟨#[]⟩, .int .i64 0, .int .i64 0, .int .i64 0, .int .i64 0, .slice none 0 0, .string ⟨#[]⟩], .bool false]) (by simp [results, Tryz.results4, go_sem, s0, s1, s2, s3, s4, s5, s6]) rfl ?_
                    rw [HNO.out]
                    have G3 := (((((((HZ.out.low.setCell (p := ⟨w.heap.size, 0, none⟩) (Nat.le_refl _) (.string ⟨#[]⟩)).setCell (p := ⟨w.heap.size, 1, none⟩) (Nat.le_refl _) (.int .i64 0)).setCell (p := ⟨w.heap.size, 2, none⟩) (Nat.le_refl _) (.int .i64 0)).setCell (p := ⟨w.heap.size, 3, none⟩) (Nat.le_refl _) (.int .i64 0)).setCell (p := ⟨w.heap.size, 4, none⟩) (Nat.le_refl _) (.int .i64 0)).setCell (p := ⟨w.heap.size, 5, none⟩) (Nat.le_refl _) (.slice none 0 0)).setCell (p := ⟨w.heap.size, 6, none⟩) (Nat.le_refl _) (.string ⟨#[]⟩))
                    first
                      | exact ⟨none, 0, rfl, .inl rfl, G3⟩
                      | exact ⟨none, ⟨0, rfl⟩, .inl rfl, G3⟩
                  | false =>
                    have HYES : Hid (R = some ⟨x0, q0, q1, q2, q3, pl, z⟩) := hid (by
                      rw [← HPC.out, HEQ.out, if_neg (by rw [HOKT.out]; simp), if_neg (by rintro ⟨_, h⟩; rw [HPP.out, HHB.out] at h; cases h), if_neg (by rintro ⟨_, h⟩; rw [HPV.out, hz] at h; cases h), HX0.out, HG.out, HPP.out, HPV.out]; rfl)
                    have n0 := HZ.out.c.c 0 _ rfl
                    have r0 := HZ.out.r.c 0 _ rfl
                    have n1 := HZ.out.c.c 1 _ rfl
                    have r1 := HZ.out.r.c 1 _ rfl
                    have n2 := HZ.out.c.c 2 _ rfl
                    have r2 := HZ.out.r.c 2 _ rfl
                    have n3 := HZ.out.c.c 3 _ rfl
                    have r3 := HZ.out.r.c 3 _ rfl
                    have n4 := HZ.out.c.c 4 _ rfl
                    have r4 := HZ.out.r.c 4 _ rfl
                    have n5 := HZ.out.c.c 5 _ rfl
                    have r5 := HZ.out.r.c 5 _ rfl
                    have n6 := HZ.out.c.c 6 _ rfl
                    have r6 := HZ.out.r.c 6 _ rfl
                    have rf := HZ.out.r.f
                    have HX := hid ((((((((HZ.out.r.set 0 (.string x0) (by simp [zC])).set 1 (.int .i64 q0) (by simp [zC])).set 2 (.int .i64 q1) (by simp [zC])).set 3 (.int .i64 q2) (by simp [zC])).set 4 (.int .i64 q3) (by simp [zC])).set 5 (.slice (some ⟨g5, 0, none⟩) pn c5) (by simp [zC])).set 6 (.string z) (by simp [zC])))
                    go_wp2_with fail
                    have s0 := HX.out.c 0 _ rfl
                    have s1 := HX.out.c 1 _ rfl
                    have s2 := HX.out.c 2 _ rfl
                    have s3 := HX.out.c 3 _ rfl
                    have s4 := HX.out.c 4 _ rfl
                    have s5 := HX.out.c 5 _ rfl
                    have s6 := HX.out.c 6 _ rfl
                    first
                      | refine bodyPost_ret (v := .tuple #[.agg #[.string x0, .int .i64 q0, .int .i64 q1, .int .i64 q2, .int .i64 q3, .slice (some ⟨g5, 0, none⟩) pn c5, .string z], .bool true]) (by simp [results, Tryz.results4, go_sem, s0, s1, s2, s3, s4, s5, s6]) rfl ?_
                      | fail "YES"
                    rw [HYES.out]
                    have GL := (((((((HZ.out.low.setCell (p := ⟨w.heap.size, 0, none⟩) (Nat.le_refl _) (.string x0)).setCell (p := ⟨w.heap.size, 1, none⟩) (Nat.le_refl _) (.int .i64 q0)).setCell (p := ⟨w.heap.size, 2, none⟩) (Nat.le_refl _) (.int .i64 q1)).setCell (p := ⟨w.heap.size, 3, none⟩) (Nat.le_refl _) (.int .i64 q2)).setCell (p := ⟨w.heap.size, 4, none⟩) (Nat.le_refl _) (.int .i64 q3)).setCell (p := ⟨w.heap.size, 5, none⟩) (Nat.le_refl _) (.slice (some ⟨g5, 0, none⟩) pn c5)).setCell (p := ⟨w.heap.size, 6, none⟩) (Nat.le_refl _) (.string z))
                    first
                      | exact ⟨(some ⟨g5, 0, none⟩), c5, by rw [← HPN.out]; rfl, ((((((((HSG6.out.setFar ⟨w2.heap.size + 1, 6, none⟩ (.string z) HFAR2.out).setFar ⟨w.heap.size, 0, none⟩ (.string x0) HFAR.out).setFar ⟨w.heap.size, 1, none⟩ (.int .i64 q0) HFAR.out).setFar ⟨w.heap.size, 2, none⟩ (.int .i64 q1) HFAR.out).setFar ⟨w.heap.size, 3, none⟩ (.int .i64 q2) HFAR.out).setFar ⟨w.heap.size, 4, none⟩ (.int .i64 q3) HFAR.out).setFar ⟨w.heap.size, 5, none⟩ (.slice (some ⟨g5, 0, none⟩) pn c5) HFAR.out).setFar ⟨w.heap.size, 6, none⟩ (.string z) HFAR.out), GL⟩
                      | exact ⟨(some ⟨g5, 0, none⟩), ⟨c5, by rw [← HPN.out]; rfl⟩, ((((((((HSG6.out.setFar ⟨w2.heap.size + 1, 6, none⟩ (.string z) HFAR2.out).setFar ⟨w.heap.size, 0, none⟩ (.string x0) HFAR.out).setFar ⟨w.heap.size, 1, none⟩ (.int .i64 q0) HFAR.out).setFar ⟨w.heap.size, 2, none⟩ (.int .i64 q1) HFAR.out).setFar ⟨w.heap.size, 3, none⟩ (.int .i64 q2) HFAR.out).setFar ⟨w.heap.size, 4, none⟩ (.int .i64 q3) HFAR.out).setFar ⟨w.heap.size, 5, none⟩ (.slice (some ⟨g5, 0, none⟩) pn c5) HFAR.out).setFar ⟨w.heap.size, 6, none⟩ (.string z) HFAR.out), GL⟩
                · have hv' : ((v : Int) == 1) = false := by rw [beq_eq_false_iff_ne]; omega
                  have HPV : Hid (pcV ws (v : Int) = ⟨#[]⟩) := hid (by unfold pcV; rw [if_neg (by omega)])
                  have HYES : Hid (R = some ⟨x0, q0, q1, q2, q3, pl, ⟨#[]⟩⟩) := hid (by
                    rw [← HPC.out, HEQ.out, if_neg (by rw [HOKT.out]; simp), if_neg (by rintro ⟨_, h⟩; rw [HPP.out, HHB.out] at h; cases h), if_neg (by rintro ⟨h, _⟩; omega), HX0.out, HG.out, HPP.out, HPV.out]; rfl)
                  have n0 := HS6.out.c.c 0 _ rfl
                  have r0 := HS6.out.r.c 0 _ rfl
                  have n1 := HS6.out.c.c 1 _ rfl
                  have r1 := HS6.out.r.c 1 _ rfl
                  have n2 := HS6.out.c.c 2 _ rfl
                  have r2 := HS6.out.r.c 2 _ rfl
                  have n3 := HS6.out.c.c 3 _ rfl
                  have r3 := HS6.out.r.c 3 _ rfl
                  have n4 := HS6.out.c.c 4 _ rfl
                  have r4 := HS6.out.r.c 4 _ rfl
                  have n5 := HS6.out.c.c 5 _ rfl
                  have r5 := HS6.out.r.c 5 _ rfl
                  have n6 := HS6.out.c.c 6 _ rfl
                  have r6 := HS6.out.r.c 6 _ rfl
                  have rf := HS6.out.r.f
                  have HX := hid ((((((((HS6.out.r.set 0 (.string x0) (by simp [zC])).set 1 (.int .i64 q0) (by simp [zC])).set 2 (.int .i64 q1) (by simp [zC])).set 3 (.int .i64 q2) (by simp [zC])).set 4 (.int .i64 q3) (by simp [zC])).set 5 (.slice (some ⟨g5, 0, none⟩) pn c5) (by simp [zC])).set 6 (.string ⟨#[]⟩) (by simp [zC])))
                  go_wp2_with fail
                  have s0 := HX.out.c 0 _ rfl
                  have s1 := HX.out.c 1 _ rfl
                  have s2 := HX.out.c 2 _ rfl
                  have s3 := HX.out.c 3 _ rfl
                  have s4 := HX.out.c 4 _ rfl
                  have s5 := HX.out.c 5 _ rfl
                  have s6 := HX.out.c 6 _ rfl
                  first
                    | refine bodyPost_ret (v := .tuple #[.agg #[.string x0, .int .i64 q0, .int .i64 q1, .int .i64 q2, .int .i64 q3, .slice (some ⟨g5, 0, none⟩) pn c5, .string ⟨#[]⟩], .bool true]) (by simp [results, Tryz.results4, go_sem, s0, s1, s2, s3, s4, s5, s6]) rfl ?_
                    | fail "YES"
                  rw [HYES.out]
                  have GL := (((((((HS6.out.low.setCell (p := ⟨w.heap.size, 0, none⟩) (Nat.le_refl _) (.string x0)).setCell (p := ⟨w.heap.size, 1, none⟩) (Nat.le_refl _) (.int .i64 q0)).setCell (p := ⟨w.heap.size, 2, none⟩) (Nat.le_refl _) (.int .i64 q1)).setCell (p := ⟨w.heap.size, 3, none⟩) (Nat.le_refl _) (.int .i64 q2)).setCell (p := ⟨w.heap.size, 4, none⟩) (Nat.le_refl _) (.int .i64 q3)).setCell (p := ⟨w.heap.size, 5, none⟩) (Nat.le_refl _) (.slice (some ⟨g5, 0, none⟩) pn c5)).setCell (p := ⟨w.heap.size, 6, none⟩) (Nat.le_refl _) (.string ⟨#[]⟩))
                  first
                    | exact ⟨(some ⟨g5, 0, none⟩), c5, by rw [← HPN.out]; rfl, (((((((HSG6.out.setFar ⟨w.heap.size, 0, none⟩ (.string x0) HFAR.out).setFar ⟨w.heap.size, 1, none⟩ (.int .i64 q0) HFAR.out).setFar ⟨w.heap.size, 2, none⟩ (.int .i64 q1) HFAR.out).setFar ⟨w.heap.size, 3, none⟩ (.int .i64 q2) HFAR.out).setFar ⟨w.heap.size, 4, none⟩ (.int .i64 q3) HFAR.out).setFar ⟨w.heap.size, 5, none⟩ (.slice (some ⟨g5, 0, none⟩) pn c5) HFAR.out).setFar ⟨w.heap.size, 6, none⟩ (.string ⟨#[]⟩) HFAR.out), GL⟩
                    | exact ⟨(some ⟨g5, 0, none⟩), ⟨c5, by rw [← HPN.out]; rfl⟩, (((((((HSG6.out.setFar ⟨w.heap.size, 0, none⟩ (.string x0) HFAR.out).setFar ⟨w.heap.size, 1, none⟩ (.int .i64 q0) HFAR.out).setFar ⟨w.heap.size, 2, none⟩ (.int .i64 q1) HFAR.out).setFar ⟨w.heap.size, 3, none⟩ (.int .i64 q2) HFAR.out).setFar ⟨w.heap.size, 4, none⟩ (.int .i64 q3) HFAR.out).setFar ⟨w.heap.size, 5, none⟩ (.slice (some ⟨g5, 0, none⟩) pn c5) HFAR.out).setFar ⟨w.heap.size, 6, none⟩ (.string ⟨#[]⟩) HFAR.out), GL⟩
            · have hp' : ((p : Int) == 1) = false := by rw [beq_eq_false_iff_ne]; omega
              have HPP : Hid (pcP ws r ((p : Nat) : Int) = []) := hid (by unfold pcP; rw [if_neg (by omega)])
              have hw4 := HW4.out
              by_cases hv : v = 1
              · have hv' : ((v : Int) == 1) = true := by rw [hv]; rfl
                obtain ⟨l, hl⟩ : ∃ l : Nat, (nW : Int) - 1 = (l : Int) := ⟨nW - 1, by have := HL1.out; omega⟩
                have hl1 : (0 : Int) ≤ (l : Int) := by omega
                have hl2 : (l : Int) < (nW : Int) := by omega
                have hl3 : (l : Int) ≤ 1048577 := by have := HL1.out; omega
                have c6 := HS4.out.wd l (by omega)
                have HPV0 : Hid (pcV ws (v : Int) = gS ws l) := hid (by
                  unfold pcV
                  rw [if_pos (by omega), HNW.out, show nW - 1 = l by omega])
                obtain ⟨z, hz⟩ : ∃ z, gS ws l = z := ⟨_, rfl⟩
                rw [hz] at c6 HPV0
                have HPV := HPV0
                have o6 := HS4.out.c.c 6 _ rfl
                have f6 := HS4.out.c.f
                have HZ : Hid (PS w w2 (w4.setCell ⟨w2.heap.size + 1, 6, none⟩ (.string z)) gw nW ws [.string x0, .int .i64 q0, .int .i64 q1, .int .i64 q2, .int .i64 q3, .slice (some ⟨w2.heap.size, 0, none⟩) 0 0, .string z] [q0, q1, q2, q3]) := hid (HS4.out.setC 6 (.string z) (by simp))
                clear hz HPV0
                cases hz : (z.toList == ([] : List UInt8)) with
                | true =>
                  have HNO : Hid (R = none) := hid (by rw [← HPC.out, HEQ.out, if_neg (by rw [HOKT.out]; simp), if_neg (by rintro ⟨h, _⟩; omega), if_pos ⟨by rw [hv]; rfl, by rw [HPV.out]; exact hz⟩])
                  have n0 := HZ.out.n.c 0 _ rfl
                  have r0 := HZ.out.r.c 0 _ rfl
                  have n1 := HZ.out.n.c 1 _ rfl
                  have r1 := HZ.out.r.c 1 _ rfl
                  have n2 := HZ.out.n.c 2 _ rfl
                  have r2 := HZ.out.r.c 2 _ rfl
                  have n3 := HZ.out.n.c 3 _ rfl
                  have r3 := HZ.out.r.c 3 _ rfl
                  have n4 := HZ.out.n.c 4 _ rfl
                  have r4 := HZ.out.r.c 4 _ rfl
                  have n5 := HZ.out.n.c 5 _ rfl
                  have r5 := HZ.out.r.c 5 _ rfl
                  have n6 := HZ.out.n.c 6 _ rfl
                  have r6 := HZ.out.r.c 6 _ rfl
                  have rf := HZ.out.r.f
                  have HX := hid ((((((((HZ.out.r.set 0 (.string ⟨#[]⟩) (by decide)).set 1 (.int .i64 0) (by decide)).set 2 (.int .i64 0) (by decide)).set 3 (.int .i64 0) (by decide)).set 4 (.int .i64 0) (by decide)).set 5 (.slice none 0 0) (by decide)).set 6 (.string ⟨#[]⟩) (by decide)))
                  go_wp2_with fail
                  have s0 := HX.out.c 0 _ rfl
                  have s1 := HX.out.c 1 _ rfl
                  have s2 := HX.out.c 2 _ rfl
                  have s3 := HX.out.c 3 _ rfl
                  have s4 := HX.out.c 4 _ rfl
                  have s5 := HX.out.c 5 _ rfl
                  have s6 := HX.out.c 6 _ rfl
                  refine bodyPost_ret (v := .tuple #[.agg #[.string ⟨#[]⟩, .int .i64 0, .int .i64 0, .int .i64 0, .int .i64 0, .slice none 0 0, .string ⟨#[]⟩], .bool false]) (by simp [results, Tryz.results4, go_sem, s0, s1, s2, s3, s4, s5, s6]) rfl ?_
                  rw [HNO.out]
                  have G3 := (((((((HZ.out.low.setCell (p := ⟨w.heap.size, 0, none⟩) (Nat.le_refl _) (.string ⟨#[]⟩)).setCell (p := ⟨w.heap.size, 1, none⟩) (Nat.le_refl _) (.int .i64 0)).setCell (p := ⟨w.heap.size, 2, none⟩) (Nat.le_refl _) (.int .i64 0)).setCell (p := ⟨w.heap.size, 3, none⟩) (Nat.le_refl _) (.int .i64 0)).setCell (p := ⟨w.heap.size, 4, none⟩) (Nat.le_refl _) (.int .i64 0)).setCell (p := ⟨w.heap.size, 5, none⟩) (Nat.le_refl _) (.slice none 0 0)).setCell (p := ⟨w.heap.size, 6, none⟩) (Nat.le_refl _) (.string ⟨#[]⟩))
                  first
                    | exact ⟨none, 0, rfl, .inl rfl, G3⟩
                    | exact ⟨none, ⟨0, rfl⟩, .inl rfl, G3⟩
                | false =>
                  have HYES : Hid (R = some ⟨x0, q0, q1, q2, q3, [], z⟩) := hid (by
                    rw [← HPC.out, HEQ.out, if_neg (by rw [HOKT.out]; simp), if_neg (by rintro ⟨h, _⟩; omega), if_neg (by rintro ⟨_, h⟩; rw [HPV.out, hz] at h; cases h), HX0.out, HG.out, HPP.out, HPV.out]; rfl)
                  have n0 := HZ.out.c.c 0 _ rfl
                  have r0 := HZ.out.r.c 0 _ rfl
                  have n1 := HZ.out.c.c 1 _ rfl
                  have r1 := HZ.out.r.c 1 _ rfl
                  have n2 := HZ.out.c.c 2 _ rfl
                  have r2 := HZ.out.r.c 2 _ rfl
                  have n3 := HZ.out.c.c 3 _ rfl
                  have r3 := HZ.out.r.c 3 _ rfl
                  have n4 := HZ.out.c.c 4 _ rfl
                  have r4 := HZ.out.r.c 4 _ rfl
                  have n5 := HZ.out.c.c 5 _ rfl
                  have r5 := HZ.out.r.c 5 _ rfl
                  have n6 := HZ.out.c.c 6 _ rfl
                  have r6 := HZ.out.r.c 6 _ rfl
                  have rf := HZ.out.r.f
                  have HX := hid ((((((((HZ.out.r.set 0 (.string x0) (by simp [zC])).set 1 (.int .i64 q0) (by simp [zC])).set 2 (.int .i64 q1) (by simp [zC])).set 3 (.int .i64 q2) (by simp [zC])).set 4 (.int .i64 q3) (by simp [zC])).set 5 (.slice (some ⟨w2.heap.size, 0, none⟩) 0 0) (by simp [zC])).set 6 (.string z) (by simp [zC])))
                  go_wp2_with fail
                  have s0 := HX.out.c 0 _ rfl
                  have s1 := HX.out.c 1 _ rfl
                  have s2 := HX.out.c 2 _ rfl
                  have s3 := HX.out.c 3 _ rfl
                  have s4 := HX.out.c 4 _ rfl
                  have s5 := HX.out.c 5 _ rfl
                  have s6 := HX.out.c 6 _ rfl
                  first
                    | refine bodyPost_ret (v := .tuple #[.agg #[.string x0, .int .i64 q0, .int .i64 q1, .int .i64 q2, .int .i64 q3, .slice (some ⟨w2.heap.size, 0, none⟩) 0 0, .string z], .bool true]) (by simp [results, Tryz.results4, go_sem, s0, s1, s2, s3, s4, s5, s6]) rfl ?_
                    | fail "YES"
                  rw [HYES.out]
                  have GL := (((((((HZ.out.low.setCell (p := ⟨w.heap.size, 0, none⟩) (Nat.le_refl _) (.string x0)).setCell (p := ⟨w.heap.size, 1, none⟩) (Nat.le_refl _) (.int .i64 q0)).setCell (p := ⟨w.heap.size, 2, none⟩) (Nat.le_refl _) (.int .i64 q1)).setCell (p := ⟨w.heap.size, 3, none⟩) (Nat.le_refl _) (.int .i64 q2)).setCell (p := ⟨w.heap.size, 4, none⟩) (Nat.le_refl _) (.int .i64 q3)).setCell (p := ⟨w.heap.size, 5, none⟩) (Nat.le_refl _) (.slice (some ⟨w2.heap.size, 0, none⟩) 0 0)).setCell (p := ⟨w.heap.size, 6, none⟩) (Nat.le_refl _) (.string z))
                  first
                    | exact ⟨(some ⟨w2.heap.size, 0, none⟩), 0, rfl, .inl rfl, GL⟩
                    | exact ⟨(some ⟨w2.heap.size, 0, none⟩), ⟨0, rfl⟩, .inl rfl, GL⟩
              · have hv' : ((v : Int) == 1) = false := by rw [beq_eq_false_iff_ne]; omega
                have HPV : Hid (pcV ws (v : Int) = ⟨#[]⟩) := hid (by unfold pcV; rw [if_neg (by omega)])
                have HYES : Hid (R = some ⟨x0, q0, q1, q2, q3, [], ⟨#[]⟩⟩) := hid (by
                  rw [← HPC.out, HEQ.out, if_neg (by rw [HOKT.out]; simp), if_neg (by rintro ⟨h, _⟩; omega), if_neg (by rintro ⟨h, _⟩; omega), HX0.out, HG.out, HPP.out, HPV.out]; rfl)
                have n0 := HS4.out.c.c 0 _ rfl
                have r0 := HS4.out.r.c 0 _ rfl
                have n1 := HS4.out.c.c 1 _ rfl
                have r1 := HS4.out.r.c 1 _ rfl
                have n2 := HS4.out.c.c 2 _ rfl
                have r2 := HS4.out.r.c 2 _ rfl
                have n3 := HS4.out.c.c 3 _ rfl
                have r3 := HS4.out.r.c 3 _ rfl
                have n4 := HS4.out.c.c 4 _ rfl
                have r4 := HS4.out.r.c 4 _ rfl
                have n5 := HS4.out.c.c 5 _ rfl
                have r5 := HS4.out.r.c 5 _ rfl
                have n6 := HS4.out.c.c 6 _ rfl
                have r6 := HS4.out.r.c 6 _ rfl
                have rf := HS4.out.r.f
                have HX := hid ((((((((HS4.out.r.set 0 (.string x0) (by simp [zC])).set 1 (.int .i64 q0) (by simp [zC])).set 2 (.int .i64 q1) (by simp [zC])).set 3 (.int .i64 q2) (by simp [zC])).set 4 (.int .i64 q3) (by simp [zC])).set 5 (.slice (some ⟨w2.heap.size, 0, none⟩) 0 0) (by simp [zC])).set 6 (.string ⟨#[]⟩) (by simp [zC])))
                go_wp2_with fail
                have s0 := HX.out.c 0 _ rfl
                have s1 := HX.out.c 1 _ rfl
                have s2 := HX.out.c 2 _ rfl
                have s3 := HX.out.c 3 _ rfl
                have s4 := HX.out.c 4 _ rfl
                have s5 := HX.out.c 5 _ rfl
                have s6 := HX.out.c 6 _ rfl
                first
                  | refine bodyPost_ret (v := .tuple #[.agg #[.string x0, .int .i64 q0, .int .i64 q1, .int .i64 q2, .int .i64 q3, .slice (some ⟨w2.heap.size, 0, none⟩) 0 0, .string ⟨#[]⟩], .bool true]) (by simp [results, Tryz.results4, go_sem, s0, s1, s2, s3, s4, s5, s6]) rfl ?_
                  | fail "YES"
                rw [HYES.out]
                have GL := (((((((HS4.out.low.setCell (p := ⟨w.heap.size, 0, none⟩) (Nat.le_refl _) (.string x0)).setCell (p := ⟨w.heap.size, 1, none⟩) (Nat.le_refl _) (.int .i64 q0)).setCell (p := ⟨w.heap.size, 2, none⟩) (Nat.le_refl _) (.int .i64 q1)).setCell (p := ⟨w.heap.size, 3, none⟩) (Nat.le_refl _) (.int .i64 q2)).setCell (p := ⟨w.heap.size, 4, none⟩) (Nat.le_refl _) (.int .i64 q3)).setCell (p := ⟨w.heap.size, 5, none⟩) (Nat.le_refl _) (.slice (some ⟨w2.heap.size, 0, none⟩) 0 0)).setCell (p := ⟨w.heap.size, 6, none⟩) (Nat.le_refl _) (.string ⟨#[]⟩))
                first
                  | exact ⟨(some ⟨w2.heap.size, 0, none⟩), 0, rfl, .inl rfl, GL⟩
                  | exact ⟨(some ⟨w2.heap.size, 0, none⟩), ⟨0, rfl⟩, .inl rfl, GL⟩
    | true =>
      have HE : Hid (r = 1 ∧ m = 0 ∧ p = 1 ∧ v = 0) := hid (by
        have h := fm_keys hk
        rw [hq] at h
        injection h with h1 h
        injection h with h2 h
        injection h with h3 h4
        omega)
      by_cases h2 : nW = 2
      · have h2' : ((nW : Int) == 2) = true := by rw [h2]; rfl
        have H2 := hid h2
        have HPT : Hid (pcPth ws = ((0 : Nat) : Int)) := hid (by
          unfold pcPth
          rw [HX0.out]
          show (if (x0.toList == [107, 101, 121, 115] && _) = true then _ else _) = _
          rw [hk, HNW.out, decide_eq_true h2]; rfl)
        have hl : ((nW : Int) != 1 + (r : Int) + (m : Int) + (v : Int)) = false := by
          rw [bne_eq_false_iff_eq]
          have := HE.out
          omega
        clear h2
        have HLN : Hid ((nW : Int) = 1 + (r : Int) + (m : Int) + ((0 : Nat) : Int) + (v : Int)) := hid (by have := HE.out; have := H2.out; omega)
        obtain ⟨W3, hW3⟩ : ∃ W3, ((w2.alloc (.cells #[] 9)).alloc (.cells #[.string x0, .int .i64 0, .int .i64 0, .int .i64 0, .int .i64 0, .slice (some ⟨w2.heap.size, 0, none⟩) 0 0, .string ⟨#[]⟩] 24)).alloc (.cells #[.int .i64 0, .int .i64 0, .int .i64 0, .int .i64 0] 3) = W3 := ⟨_, rfl⟩
        have b3 : Below w2.heap.size w2 W3 := by rw [← hW3]; exact (below2 _ _ _).alloc (by simp; omega) _
        have HZ2 : Hid (w.heap.size + 2 ≤ w2.heap.size) := hid (by
          have h1 := HN2.out.lt
          omega)
        have HPS : Hid (PS w w2 W3 gw nW ws [.string x0, .int .i64 0, .int .i64 0, .int .i64 0, .int .i64 0, .slice (some ⟨w2.heap.size, 0, none⟩) 0 0, .string ⟨#[]⟩] (pcG ws r 0)) := hid (by
          refine ⟨keepS HLW.out b3, HR2.out.below b3, HN2.out.below b3, ?_, ?_, fun i hi => (b3.cell (p := ⟨gw, i, none⟩) HGW2.out).trans (HCS2.out i hi), HZ2.out, HGW2.out⟩
          · rw [← hW3]
            have := BxL.made (w2.alloc (.cells #[] 9)) [.string x0, .int .i64 0, .int .i64 0, .int .i64 0, .int .i64 0, .slice (some ⟨w2.heap.size, 0, none⟩) 0 0, .string ⟨#[]⟩] 24
            rw [show (w2.alloc (.cells #[] 9)).heap.size = w2.heap.size + 1 by simp] at this
            exact this.below ((Below.refl _ _).alloc (Nat.le_refl _) _)
          · rw [← hW3]
            have := BxL.made ((w2.alloc (.cells #[] 9)).alloc (.cells #[.string x0, .int .i64 0, .int .i64 0, .int .i64 0, .int .i64 0, .slice (some ⟨w2.heap.size, 0, none⟩) 0 0, .string ⟨#[]⟩] 24)) [.int .i64 0, .int .i64 0, .int .i64 0, .int .i64 0] 3
            rw [show ((w2.alloc (.cells #[] 9)).alloc (.cells #[.string x0, .int .i64 0, .int .i64 0, .int .i64 0, .int .i64 0, .slice (some ⟨w2.heap.size, 0, none⟩) 0 0, .string ⟨#[]⟩] 24)).heap.size = w2.heap.size + 1 + 1 by simp] at this
            exact this)
        have HEQ := hid (pcS_eq (pt := 0) HWS.out (by rw [HX0.out]; exact hq) HPT.out (by rw [HNW.out]; exact HLN.out))
        have HW3 := hid hW3
        clear b3 hW3 HR2 HN2 HCS2
        go_wp2_with fail
        rw [HW3.out]
        clear c0
        go_loopw [12] (fun i wr => ∃ k : Nat, k ≤ r + m ∧ i = .int .i64 k ∧ Hid (∀ j, j < k → pcBad ws r j = false) ∧ Hid (PS w w2 wr gw nW ws [.string x0, .int .i64 0, .int .i64 0, .int .i64 0, .int .i64 0, .slice (some ⟨w2.heap.size, 0, none⟩) 0 0, .string ⟨#[]⟩] (pcG ws r k))) (fun i _ => r + m - (intOf i).toNat)
        case atStart => exact ⟨0, Nat.zero_le _, rfl, hid (fun j hj => by omega), HPS⟩
        case round =>
          clear HPS
          obtain ⟨k, hk1, rfl, HOK, HS⟩ := hrel
          by_cases hlt : k < r + m
          · have i1 : (0 : Int) ≤ 1 + (k : Int) := by omega
            have i2 : 1 + (k : Int) < (nW : Int) := by have := HLN.out; omega
            have i3 : (k : Int) < (r : Int) + (m : Int) := by omega
            have c1 := HS.out.wd (1 + k) (by have := HLN.out; omega)
            have hsz : (gS ws (1 + k)).size ≤ 1048576 := by rw [← HWS.out]; exact Nat.le_trans (gS_size _) hs
            have HV : Hid (pcN ws r k = if k < r then decF (gS ws (1 + k)) 1 else decF (gS ws (1 + k)) 5) := hid rfl
            obtain ⟨y, hy⟩ : ∃ y, gS ws (1 + k) = y := ⟨_, rfl⟩
            rw [hy] at c1 hsz HV
            have HD5 := hid (l7DecimalC y 5 wr hsz (by omega))
            have HD1 := hid (l7DecimalC y 1 wr hsz (by omega))
            obtain ⟨d5, hd5⟩ : ∃ d5, decF y 5 = d5 := ⟨_, rfl⟩
            obtain ⟨d1, hd1⟩ : ∃ d1, decF y 1 = d1 := ⟨_, rfl⟩
            rw [hd5] at HD5 HV
            rw [hd1] at HD1 HV
            clear hd5 hd1 hy hsz
            go_wp2_with fail
            refine HD5.out.mono ?_
            rintro e w' ⟨rfl, hw'⟩
            obtain rfl : wr = w' := hw'.symm
            clear HD5
            by_cases hkr : k < r
            · have j1 : (k : Int) < (r : Int) := by omega
              rw [if_pos hkr] at HV
              have HKK : Hid (pcK r k = k) := hid (by unfold pcK; rw [if_pos hkr])
              go_wp2_with fail
              refine HD1.out.mono ?_
              rintro e w' ⟨rfl, hw'⟩
              obtain rfl : wr = w' := hw'.symm
              clear HD1
              by_cases hb0 : d1 < 0
              · have HNO : Hid (R = none) := hid (by rw [← HPC.out, HEQ.out, if_pos (pcOk_f hlt (by unfold pcBad; rw [HV.out]; simp [hb0]))])
                have n0 := HS.out.n.c 0 _ rfl
                have r0 := HS.out.r.c 0 _ rfl
                have n1 := HS.out.n.c 1 _ rfl
                have r1 := HS.out.r.c 1 _ rfl
                have n2 := HS.out.n.c 2 _ rfl
                have r2 := HS.out.r.c 2 _ rfl
                have n3 := HS.out.n.c 3 _ rfl
                have r3 := HS.out.r.c 3 _ rfl
                have n4 := HS.out.n.c 4 _ rfl
                have r4 := HS.out.r.c 4 _ rfl
                have n5 := HS.out.n.c 5 _ rfl
                have r5 := HS.out.r.c 5 _ rfl
                have n6 := HS.out.n.c 6 _ rfl
                have r6 := HS.out.r.c 6 _ rfl
                have rf := HS.out.r.f
                have HX := hid ((((((((HS.out.r.set 0 (.string ⟨#[]⟩) (by decide)).set 1 (.int .i64 0) (by decide)).set 2 (.int .i64 0) (by decide)).set 3 (.int .i64 0) (by decide)).set 4 (.int .i64 0) (by decide)).set 5 (.slice none 0 0) (by decide)).set 6 (.string ⟨#[]⟩) (by decide)))
                go_wp2_with fail
                have s0 := HX.out.c 0 _ rfl
                have s1 := HX.out.c 1 _ rfl
                have s2 := HX.out.c 2 _ rfl
                have s3 := HX.out.c 3 _ rfl
                have s4 := HX.out.c 4 _ rfl
                have s5 := HX.out.c 5 _ rfl
                have s6 := HX.out.c 6 _ rfl
                refine bodyPost_ret (v := .tuple #[.agg #[.string ⟨#[]⟩, .int .i64 0, .int .i64 0, .int .i64 0, .int .i64 0, .slice none 0 0, .string ⟨#[]⟩], .bool false]) (by simp [results, Tryz.results4, go_sem, s0, s1, s2, s3, s4, s5, s6]) rfl ?_
                rw [HNO.out]
                have G3 := (((((((HS.out.low.setCell (p := ⟨w.heap.size, 0, none⟩) (Nat.le_refl _) (.string ⟨#[]⟩)).setCell (p := ⟨w.heap.size, 1, none⟩) (Nat.le_refl _) (.int .i64 0)).setCell (p := ⟨w.heap.size, 2, none⟩) (Nat.le_refl _) (.int .i64 0)).setCell (p := ⟨w.heap.size, 3, none⟩) (Nat.le_refl _) (.int .i64 0)).setCell (p := ⟨w.heap.size, 4, none⟩) (Nat.le_refl _) (.int .i64 0)).setCell (p := ⟨w.heap.size, 5, none⟩) (Nat.le_refl _) (.slice none 0 0)).setCell (p := ⟨w.heap.size, 6, none⟩) (Nat.le_refl _) (.string ⟨#[]⟩))
                first
                  | exact ⟨none, 0, rfl, .inl rfl, G3⟩
                  | exact ⟨none, ⟨0, rfl⟩, .inl rfl, G3⟩
              · by_cases hb7 : d1 > 7
                · have HNO : Hid (R = none) := hid (by rw [← HPC.out, HEQ.out, if_pos (pcOk_f hlt (by unfold pcBad; rw [HV.out, decide_eq_true hkr, decide_eq_true hb7]; simp))])
                  have hb7' : 7 < d1 := hb7
                  have n0 := HS.out.n.c 0 _ rfl
                  have r0 := HS.out.r.c 0 _ rfl
                  have n1 := HS.out.n.c 1 _ rfl
                  have r1 := HS.out.r.c 1 _ rfl
                  have n2 := HS.out.n.c 2 _ rfl
                  have r2 := HS.out.r.c 2 _ rfl
                  have n3 := HS.out.n.c 3 _ rfl
                  have r3 := HS.out.r.c 3 _ rfl
                  have n4 := HS.out.n.c 4 _ rfl
                  have r4 := HS.out.r.c 4 _ rfl
                  have n5 := HS.out.n.c 5 _ rfl
                  have r5 := HS.out.r.c 5 _ rfl
                  have n6 := HS.out.n.c 6 _ rfl
                  have r6 := HS.out.r.c 6 _ rfl
                  have rf := HS.out.r.f
                  have HX := hid ((((((((HS.out.r.set 0 (.string ⟨#[]⟩) (by decide)).set 1 (.int .i64 0) (by decide)).set 2 (.int .i64 0) (by decide)).set 3 (.int .i64 0) (by decide)).set 4 (.int .i64 0) (by decide)).set 5 (.slice none 0 0) (by decide)).set 6 (.string ⟨#[]⟩) (by decide)))
                  go_wp2_with fail
                  have s0 := HX.out.c 0 _ rfl
                  have s1 := HX.out.c 1 _ rfl
                  have s2 := HX.out.c 2 _ rfl
                  have s3 := HX.out.c 3 _ rfl
                  have s4 := HX.out.c 4 _ rfl
                  have s5 := HX.out.c 5 _ rfl
                  have s6 := HX.out.c 6 _ rfl
                  refine bodyPost_ret (v := .tuple #[.agg #[.string ⟨#[]⟩, .int .i64 0, .int .i64 0, .int .i64 0, .int .i64 0, .slice none 0 0, .string ⟨#[]⟩], .bool false]) (by simp [results, Tryz.results4, go_sem, s0, s1, s2, s3, s4, s5, s6]) rfl ?_
                  rw [HNO.out]
                  have G3 := (((((((HS.out.low.setCell (p := ⟨w.heap.size, 0, none⟩) (Nat.le_refl _) (.string ⟨#[]⟩)).setCell (p := ⟨w.heap.size, 1, none⟩) (Nat.le_refl _) (.int .i64 0)).setCell (p := ⟨w.heap.size, 2, none⟩) (Nat.le_refl _) (.int .i64 0)).setCell (p := ⟨w.heap.size, 3, none⟩) (Nat.le_refl _) (.int .i64 0)).setCell (p := ⟨w.heap.size, 4, none⟩) (Nat.le_refl _) (.int .i64 0)).setCell (p := ⟨w.heap.size, 5, none⟩) (Nat.le_refl _) (.slice none 0 0)).setCell (p := ⟨w.heap.size, 6, none⟩) (Nat.le_refl _) (.string ⟨#[]⟩))
                  first
                    | exact ⟨none, 0, rfl, .inl rfl, G3⟩
                    | exact ⟨none, ⟨0, rfl⟩, .inl rfl, G3⟩
                · have hb7' : d1 ≤ 7 := by omega
                  have hb0' : 0 ≤ d1 := by omega
                  have k3 : ((k : Int) == 3) = false := by rw [beq_eq_false_iff_ne]; omega
                  have HOK2 : Hid (∀ j, j < k + 1 → pcBad ws r j = false) := hid (fun j hj => by
                    by_cases e : j = k
                    · rw [e]; unfold pcBad; rw [HV.out, HKK.out, decide_eq_false hb0, decide_eq_false hb7, decide_eq_false (show ¬ k = 3 by omega)]; simp
                    · exact HOK.out j (by omega))
                  have HS2 : Hid (PS w w2 (wr.setCell ⟨w2.heap.size + 1 + 1, k, none⟩ (.int .i64 d1)) gw nW ws [.string x0, .int .i64 0, .int .i64 0, .int .i64 0, .int .i64 0, .slice (some ⟨w2.heap.size, 0, none⟩) 0 0, .string ⟨#[]⟩] (pcG ws r (k + 1))) := hid (by
                    show PS _ _ _ _ _ _ _ ((pcG ws r k).set (pcK r k) (pcN ws r k))
                    rw [HKK.out, HV.out]
                    exact HS.out.setG k d1 (by rw [pcG_len]; omega))
                  have g0 := HS.out.g.c k (.int .i64 ((pcG ws r k).getD k 0)) (by simp [List.getD, show k < (pcG ws r k).length by rw [pcG_len]; omega])
                  have gf := HS.out.g.f
                  have i4 : (0 : Int) ≤ (k : Int) := by omega
                  have i5 : (k : Int) < 4 := by omega
                  clear HS HOK HV hb0 hb7 c1
                  go_wp2_with fail
                  go_roundw
                  case rel => exact ⟨k + 1, hlt, by go_num, HOK2, HS2⟩
                  case measure => simp [intOf]; omega
            · have j1 : ¬ (k : Int) < (r : Int) := by omega
              rw [if_neg hkr] at HV
              obtain ⟨kn, hkn⟩ : ∃ kn : Nat, 2 + (k : Int) - (r : Int) = (kn : Int) := ⟨2 + k - r, by omega⟩
              have HKN : Hid (pcK r k = kn) := hid (by unfold pcK; rw [if_neg hkr]; omega)
              have hkn4 : kn < 4 := by omega
              clear HD1
              by_cases hb0 : d5 < 0
              · have HNO : Hid (R = none) := hid (by rw [← HPC.out, HEQ.out, if_pos (pcOk_f hlt (by unfold pcBad; rw [HV.out]; simp [hb0]))])
                have n0 := HS.out.n.c 0 _ rfl
                have r0 := HS.out.r.c 0 _ rfl
                have n1 := HS.out.n.c 1 _ rfl
                have r1 := HS.out.r.c 1 _ rfl
                have n2 := HS.out.n.c 2 _ rfl
                have r2 := HS.out.r.c 2 _ rfl
                have n3 := HS.out.n.c 3 _ rfl
                have r3 := HS.out.r.c 3 _ rfl
                have n4 := HS.out.n.c 4 _ rfl
                have r4 := HS.out.r.c 4 _ rfl
                have n5 := HS.out.n.c 5 _ rfl
                have r5 := HS.out.r.c 5 _ rfl
                have n6 := HS.out.n.c 6 _ rfl
                have r6 := HS.out.r.c 6 _ rfl
                have rf := HS.out.r.f
                have HX := hid ((((((((HS.out.r.set 0 (.string ⟨#[]⟩) (by decide)).set 1 (.int .i64 0) (by decide)).set 2 (.int .i64 0) (by decide)).set 3 (.int .i64 0) (by decide)).set 4 (.int .i64 0) (by decide)).set 5 (.slice none 0 0) (by decide)).set 6 (.string ⟨#[]⟩) (by decide)))
                go_wp2_with fail
                have s0 := HX.out.c 0 _ rfl
                have s1 := HX.out.c 1 _ rfl
                have s2 := HX.out.c 2 _ rfl
                have s3 := HX.out.c 3 _ rfl
                have s4 := HX.out.c 4 _ rfl
                have s5 := HX.out.c 5 _ rfl
                have s6 := HX.out.c 6 _ rfl
                refine bodyPost_ret (v := .tuple #[.agg #[.string ⟨#[]⟩, .int .i64 0, .int .i64 0, .int .i64 0, .int .i64 0, .slice none 0 0, .string ⟨#[]⟩], .bool false]) (by simp [results, Tryz.results4, go_sem, s0, s1, s2, s3, s4, s5, s6]) rfl ?_
                rw [HNO.out]
                have G3 := (((((((HS.out.low.setCell (p := ⟨w.heap.size, 0, none⟩) (Nat.le_refl _) (.string ⟨#[]⟩)).setCell (p := ⟨w.heap.size, 1, none⟩) (Nat.le_refl _) (.int .i64 0)).setCell (p := ⟨w.heap.size, 2, none⟩) (Nat.le_refl _) (.int .i64 0)).setCell (p := ⟨w.heap.size, 3, none⟩) (Nat.le_refl _) (.int .i64 0)).setCell (p := ⟨w.heap.size, 4, none⟩) (Nat.le_refl _) (.int .i64 0)).setCell (p := ⟨w.heap.size, 5, none⟩) (Nat.le_refl _) (.slice none 0 0)).setCell (p := ⟨w.heap.size, 6, none⟩) (Nat.le_refl _) (.string ⟨#[]⟩))
                first
                  | exact ⟨none, 0, rfl, .inl rfl, G3⟩
                  | exact ⟨none, ⟨0, rfl⟩, .inl rfl, G3⟩
              · have hb0' : 0 ≤ d5 := by omega
                by_cases hb3 : kn = 3 ∧ d5 > 255
                · have HNO : Hid (R = none) := hid (by rw [← HPC.out, HEQ.out, if_pos (pcOk_f hlt (by unfold pcBad; rw [HV.out, HKN.out, decide_eq_true hb3.1, decide_eq_true hb3.2]; simp))])
                  have k3 : ((kn : Int) == 3) = true := by rw [hb3.1]; rfl
                  have hb7' : 255 < d5 := hb3.2
                  have n0 := HS.out.n.c 0 _ rfl
                  have r0 := HS.out.r.c 0 _ rfl
                  have n1 := HS.out.n.c 1 _ rfl
                  have r1 := HS.out.r.c 1 _ rfl
                  have n2 := HS.out.n.c 2 _ rfl
                  have r2 := HS.out.r.c 2 _ rfl
                  have n3 := HS.out.n.c 3 _ rfl
                  have r3 := HS.out.r.c 3 _ rfl
                  have n4 := HS.out.n.c 4 _ rfl
                  have r4 := HS.out.r.c 4 _ rfl
                  have n5 := HS.out.n.c 5 _ rfl
                  have r5 := HS.out.r.c 5 _ rfl
                  have n6 := HS.out.n.c 6 _ rfl
                  have r6 := HS.out.r.c 6 _ rfl
                  have rf := HS.out.r.f
                  have HX := hid ((((((((HS.out.r.set 0 (.string ⟨#[]⟩) (by decide)).set 1 (.int .i64 0) (by decide)).set 2 (.int .i64 0) (by decide)).set 3 (.int .i64 0) (by decide)).set 4 (.int .i64 0) (by decide)).set 5 (.slice none 0 0) (by decide)).set 6 (.string ⟨#[]⟩) (by decide)))
                  go_wp2_with fail
                  have s0 := HX.out.c 0 _ rfl
                  have s1 := HX.out.c 1 _ rfl
                  have s2 := HX.out.c 2 _ rfl
                  have s3 := HX.out.c 3 _ rfl
                  have s4 := HX.out.c 4 _ rfl
                  have s5 := HX.out.c 5 _ rfl
                  have s6 := HX.out.c 6 _ rfl
                  refine bodyPost_ret (v := .tuple #[.agg #[.string ⟨#[]⟩, .int .i64 0, .int .i64 0, .int .i64 0, .int .i64 0, .slice none 0 0, .string ⟨#[]⟩], .bool false]) (by simp [results, Tryz.results4, go_sem, s0, s1, s2, s3, s4, s5, s6]) rfl ?_
                  rw [HNO.out]
                  have G3 := (((((((HS.out.low.setCell (p := ⟨w.heap.size, 0, none⟩) (Nat.le_refl _) (.string ⟨#[]⟩)).setCell (p := ⟨w.heap.size, 1, none⟩) (Nat.le_refl _) (.int .i64 0)).setCell (p := ⟨w.heap.size, 2, none⟩) (Nat.le_refl _) (.int .i64 0)).setCell (p := ⟨w.heap.size, 3, none⟩) (Nat.le_refl _) (.int .i64 0)).setCell (p := ⟨w.heap.size, 4, none⟩) (Nat.le_refl _) (.int .i64 0)).setCell (p := ⟨w.heap.size, 5, none⟩) (Nat.le_refl _) (.slice none 0 0)).setCell (p := ⟨w.heap.size, 6, none⟩) (Nat.le_refl _) (.string ⟨#[]⟩))
                  first
                    | exact ⟨none, 0, rfl, .inl rfl, G3⟩
                    | exact ⟨none, ⟨0, rfl⟩, .inl rfl, G3⟩
                · have HOK2 : Hid (∀ j, j < k + 1 → pcBad ws r j = false) := hid (fun j hj => by
                    by_cases e : j = k
                    · rw [e]; unfold pcBad; rw [HV.out, HKN.out, decide_eq_false hb0, decide_eq_false hkr]
                      by_cases e3 : kn = 3
                      · rw [decide_eq_false (fun h => hb3 ⟨e3, h⟩)]; simp
                      · rw [decide_eq_false e3]; simp
                    · exact HOK.out j (by omega))
                  have HS2 : Hid (PS w w2 (wr.setCell ⟨w2.heap.size + 1 + 1, kn, none⟩ (.int .i64 d5)) gw nW ws [.string x0, .int .i64 0, .int .i64 0, .int .i64 0, .int .i64 0, .slice (some ⟨w2.heap.size, 0, none⟩) 0 0, .string ⟨#[]⟩] (pcG ws r (k + 1))) := hid (by
                    show PS _ _ _ _ _ _ _ ((pcG ws r k).set (pcK r k) (pcN ws r k))
                    rw [HKN.out, HV.out]
                    exact HS.out.setG kn d5 (by rw [pcG_len]; omega))
                  have g0 := HS.out.g.c kn (.int .i64 ((pcG ws r k).getD kn 0)) (by simp [List.getD, show kn < (pcG ws r k).length by rw [pcG_len]; omega])
                  have gf := HS.out.g.f
                  have i4 : (0 : Int) ≤ (kn : Int) := by omega
                  have i5 : (kn : Int) < 4 := by omega
                  by_cases e3 : kn = 3
                  · have k3 : ((kn : Int) == 3) = true := by rw [e3]; rfl
                    have hb7' : d5 ≤ 255 := by
                      have : ¬ d5 > 255 := fun h => hb3 ⟨e3, h⟩
                      omega
                    clear HS HOK HV hb0 hb3 c1 e3
                    go_wp2_with fail
                    go_roundw
                    case rel => exact ⟨k + 1, hlt, by go_num, HOK2, HS2⟩
                    case measure => simp [intOf]; omega
                  · have k3 : ((kn : Int) == 3) = false := by rw [beq_eq_false_iff_ne]; omega
                    clear HS HOK HV hb0 hb3 c1
                    go_wp2_with fail
                    go_roundw
                    case rel => exact ⟨k + 1, hlt, by go_num, HOK2, HS2⟩
                    case measure => simp [intOf]; omega
          · have HKE : Hid (k = r + m) := hid (by omega)
            have i3 : ¬ (k : Int) < (r : Int) + (m : Int) := by omega
            have HOKT : Hid (pcOk ws r m = true) := hid (pcOk_t (fun j hj => HOK.out j (by omega)))
            obtain ⟨q0, q1, q2, q3, hG⟩ := pcG_four ws r k
            rw [hG] at HS
            rw [HKE.out] at hG
            have HG := hid hG
            have g0 := HS.out.g.c 0 (.int .i64 q0) rfl
            have g1 := HS.out.g.c 1 (.int .i64 q1) rfl
            have g2 := HS.out.g.c 2 (.int .i64 q2) rfl
            have g3 := HS.out.g.c 3 (.int .i64 q3) rfl
            have d1 := HS.out.c.c 1 _ rfl
            have d2 := HS.out.c.c 2 _ rfl
            have d3 := HS.out.c.c 3 _ rfl
            have d4 := HS.out.c.c 4 _ rfl
            have cf := HS.out.c.f
            obtain ⟨w4, hw4⟩ : ∃ w4, ((((wr.setCell ⟨w2.heap.size + 1, 1, none⟩ (.int .i64 q0)).setCell ⟨w2.heap.size + 1, 2, none⟩ (.int .i64 q1)).setCell ⟨w2.heap.size + 1, 3, none⟩ (.int .i64 q2)).setCell ⟨w2.heap.size + 1, 4, none⟩ (.int .i64 q3)) = w4 := ⟨_, rfl⟩
            have HS4 : Hid (PS w w2 w4 gw nW ws [.string x0, .int .i64 q0, .int .i64 q1, .int .i64 q2, .int .i64 q3, .slice (some ⟨w2.heap.size, 0, none⟩) 0 0, .string ⟨#[]⟩] [q0, q1, q2, q3]) := hid (by rw [← hw4]; exact ((((HS.out.setC 1 (.int .i64 q0) (by simp)).setC 2 (.int .i64 q1) (by simp)).setC 3 (.int .i64 q2) (by simp)).setC 4 (.int .i64 q3) (by simp)))
            have HW4 := hid hw4
            clear hw4 HOK HS hG hk1
            have HPP : Hid (pcP ws r ((0 : Nat) : Int) = []) := hid (by unfold pcP; rw [if_neg (by omega)])
            have hw4 := HW4.out
            by_cases hv : v = 1
            · have hv' : ((v : Int) == 1) = true := by rw [hv]; rfl
              obtain ⟨l, hl⟩ : ∃ l : Nat, (nW : Int) - 1 = (l : Int) := ⟨nW - 1, by have := HL1.out; omega⟩
              have hl1 : (0 : Int) ≤ (l : Int) := by omega
              have hl2 : (l : Int) < (nW : Int) := by omega
              have hl3 : (l : Int) ≤ 1048577 := by have := HL1.out; omega
              have c6 := HS4.out.wd l (by omega)
              have HPV0 : Hid (pcV ws (v : Int) = gS ws l) := hid (by
                unfold pcV
                rw [if_pos (by omega), HNW.out, show nW - 1 = l by omega])
              obtain ⟨z, hz⟩ : ∃ z, gS ws l = z := ⟨_, rfl⟩
              rw [hz] at c6 HPV0
              have HPV := HPV0
              have o6 := HS4.out.c.c 6 _ rfl
              have f6 := HS4.out.c.f
              have HZ : Hid (PS w w2 (w4.setCell ⟨w2.heap.size + 1, 6, none⟩ (.string z)) gw nW ws [.string x0, .int .i64 q0, .int .i64 q1, .int .i64 q2, .int .i64 q3, .slice (some ⟨w2.heap.size, 0, none⟩) 0 0, .string z] [q0, q1, q2, q3]) := hid (HS4.out.setC 6 (.string z) (by simp))
              clear hz HPV0
              cases hz : (z.toList == ([] : List UInt8)) with
              | true =>
                have HNO : Hid (R = none) := hid (by rw [← HPC.out, HEQ.out, if_neg (by rw [HOKT.out]; simp), if_neg (by rintro ⟨h, _⟩; omega), if_pos ⟨by rw [hv]; rfl, by rw [HPV.out]; exact hz⟩])
                have n0 := HZ.out.n.c 0 _ rfl
                have r0 := HZ.out.r.c 0 _ rfl
                have n1 := HZ.out.n.c 1 _ rfl
                have r1 := HZ.out.r.c 1 _ rfl
                have n2 := HZ.out.n.c 2 _ rfl
                have r2 := HZ.out.r.c 2 _ rfl
                have n3 := HZ.out.n.c 3 _ rfl
                have r3 := HZ.out.r.c 3 _ rfl
                have n4 := HZ.out.n.c 4 _ rfl
                have r4 := HZ.out.r.c 4 _ rfl
                have n5 := HZ.out.n.c 5 _ rfl
                have r5 := HZ.out.r.c 5 _ rfl
                have n6 := HZ.out.n.c 6 _ rfl
                have r6 := HZ.out.r.c 6 _ rfl
                have rf := HZ.out.r.f
                have HX := hid ((((((((HZ.out.r.set 0 (.string ⟨#[]⟩) (by decide)).set 1 (.int .i64 0) (by decide)).set 2 (.int .i64 0) (by decide)).set 3 (.int .i64 0) (by decide)).set 4 (.int .i64 0) (by decide)).set 5 (.slice none 0 0) (by decide)).set 6 (.string ⟨#[]⟩) (by decide)))
                go_wp2_with fail
                have s0 := HX.out.c 0 _ rfl
                have s1 := HX.out.c 1 _ rfl
                have s2 := HX.out.c 2 _ rfl
                have s3 := HX.out.c 3 _ rfl
                have s4 := HX.out.c 4 _ rfl
                have s5 := HX.out.c 5 _ rfl
                have s6 := HX.out.c 6 _ rfl
                refine bodyPost_ret (v := .tuple #[.agg #[.string ⟨#[]⟩, .int .i64 0, .int .i64 0, .int .i64 0, .int .i64 0, .slice none 0 0, .string ⟨#[]⟩], .bool false]) (by simp [results, Tryz.results4, go_sem, s0, s1, s2, s3, s4, s5, s6]) rfl ?_
                rw [HNO.out]
                have G3 := (((((((HZ.out.low.setCell (p := ⟨w.heap.size, 0, none⟩) (Nat.le_refl _) (.string ⟨#[]⟩)).setCell (p := ⟨w.heap.size, 1, none⟩) (Nat.le_refl _) (.int .i64 0)).setCell (p := ⟨w.heap.size, 2, none⟩) (Nat.le_refl _) (.int .i64 0)).setCell (p := ⟨w.heap.size, 3, none⟩) (Nat.le_refl _) (.int .i64 0)).setCell (p := ⟨w.heap.size, 4, none⟩) (Nat.le_refl _) (.int .i64 0)).setCell (p := ⟨w.heap.size, 5, none⟩) (Nat.le_refl _) (.slice none 0 0)).setCell (p := ⟨w.heap.size, 6, none⟩) (Nat.le_refl _) (.string ⟨#[]⟩))
                first
                  | exact ⟨none, 0, rfl, .inl rfl, G3⟩
                  | exact ⟨none, ⟨0, rfl⟩, .inl rfl, G3⟩
              | false =>
                have HYES : Hid (R = some ⟨x0, q0, q1, q2, q3, [], z⟩) := hid (by
                  rw [← HPC.out, HEQ.out, if_neg (by rw [HOKT.out]; simp), if_neg (by rintro ⟨h, _⟩; omega), if_neg (by rintro ⟨_, h⟩; rw [HPV.out, hz] at h; cases h), HX0.out, HG.out, HPP.out, HPV.out]; rfl)
                have n0 := HZ.out.c.c 0 _ rfl
                have r0 := HZ.out.r.c 0 _ rfl
                have n1 := HZ.out.c.c 1 _ rfl
                have r1 := HZ.out.r.c 1 _ rfl
                have n2 := HZ.out.c.c 2 _ rfl
                have r2 := HZ.out.r.c 2 _ rfl
                have n3 := HZ.out.c.c 3 _ rfl
                have r3 := HZ.out.r.c 3 _ rfl
                have n4 := HZ.out.c.c 4 _ rfl
                have r4 := HZ.out.r.c 4 _ rfl
                have n5 := HZ.out.c.c 5 _ rfl
                have r5 := HZ.out.r.c 5 _ rfl
                have n6 := HZ.out.c.c 6 _ rfl
                have r6 := HZ.out.r.c 6 _ rfl
                have rf := HZ.out.r.f
                have HX := hid ((((((((HZ.out.r.set 0 (.string x0) (by simp [zC])).set 1 (.int .i64 q0) (by simp [zC])).set 2 (.int .i64 q1) (by simp [zC])).set 3 (.int .i64 q2) (by simp [zC])).set 4 (.int .i64 q3) (by simp [zC])).set 5 (.slice (some ⟨w2.heap.size, 0, none⟩) 0 0) (by simp [zC])).set 6 (.string z) (by simp [zC])))
                go_wp2_with fail
                have s0 := HX.out.c 0 _ rfl
                have s1 := HX.out.c 1 _ rfl
                have s2 := HX.out.c 2 _ rfl
                have s3 := HX.out.c 3 _ rfl
                have s4 := HX.out.c 4 _ rfl
                have s5 := HX.out.c 5 _ rfl
                have s6 := HX.out.c 6 _ rfl
                first
                  | refine bodyPost_ret (v := .tuple #[.agg #[.string x0, .int .i64 q0, .int .i64 q1, .int .i64 q2, .int .i64 q3, .slice (some ⟨w2.heap.size, 0, none⟩) 0 0, .string z], .bool true]) (by simp [results, Tryz.results4, go_sem, s0, s1, s2, s3, s4, s5, s6]) rfl ?_
                  | fail "YES"
                rw [HYES.out]
                have GL := (((((((HZ.out.low.setCell (p := ⟨w.heap.size, 0, none⟩) (Nat.le_refl _) (.string x0)).setCell (p := ⟨w.heap.size, 1, none⟩) (Nat.le_refl _) (.int .i64 q0)).setCell (p := ⟨w.heap.size, 2, none⟩) (Nat.le_refl _) (.int .i64 q1)).setCell (p := ⟨w.heap.size, 3, none⟩) (Nat.le_refl _) (.int .i64 q2)).setCell (p := ⟨w.heap.size, 4, none⟩) (Nat.le_refl _) (.int .i64 q3)).setCell (p := ⟨w.heap.size, 5, none⟩) (Nat.le_refl _) (.slice (some ⟨w2.heap.size, 0, none⟩) 0 0)).setCell (p := ⟨w.heap.size, 6, none⟩) (Nat.le_refl _) (.string z))
                first
                  | exact ⟨(some ⟨w2.heap.size, 0, none⟩), 0, rfl, .inl rfl, GL⟩
                  | exact ⟨(some ⟨w2.heap.size, 0, none⟩), ⟨0, rfl⟩, .inl rfl, GL⟩
            · have hv' : ((v : Int) == 1) = false := by rw [beq_eq_false_iff_ne]; omega
              have HPV : Hid (pcV ws (v : Int) = ⟨#[]⟩) := hid (by unfold pcV; rw [if_neg (by omega)])
              have HYES : Hid (R = some ⟨x0, q0, q1, q2, q3, [], ⟨#[]⟩⟩) := hid (by
                rw [← HPC.out, HEQ.out, if_neg (by rw [HOKT.out]; simp), if_neg (by rintro ⟨h, _⟩; omega), if_neg (by rintro ⟨h, _⟩; omega), HX0.out, HG.out, HPP.out, HPV.out]; rfl)
              have n0 := HS4.out.c.c 0 _ rfl
              have r0 := HS4.out.r.c 0 _ rfl
              have n1 := HS4.out.c.c 1 _ rfl
              have r1 := HS4.out.r.c 1 _ rfl
              have n2 := HS4.out.c.c 2 _ rfl
              have r2 := HS4.out.r.c 2 _ rfl
              have n3 := HS4.out.c.c 3 _ rfl
              have r3 := HS4.out.r.c 3 _ rfl
              have n4 := HS4.out.c.c 4 _ rfl
              have r4 := HS4.out.r.c 4 _ rfl
              have n5 := HS4.out.c.c 5 _ rfl
              have r5 := HS4.out.r.c 5 _ rfl
              have n6 := HS4.out.c.c 6 _ rfl
              have r6 := HS4.out.r.c 6 _ rfl
              have rf := HS4.out.r.f
              have HX := hid ((((((((HS4.out.r.set 0 (.string x0) (by simp [zC])).set 1 (.int .i64 q0) (by simp [zC])).set 2 (.int .i64 q1) (by simp [zC])).set 3 (.int .i64 q2) (by simp [zC])).set 4 (.int .i64 q3) (by simp [zC])).set 5 (.slice (some ⟨w2.heap.size, 0, none⟩) 0 0) (by simp [zC])).set 6 (.string ⟨#[]⟩) (by simp [zC])))
              go_wp2_with fail
              have s0 := HX.out.c 0 _ rfl
              have s1 := HX.out.c 1 _ rfl
              have s2 := HX.out.c 2 _ rfl
              have s3 := HX.out.c 3 _ rfl
              have s4 := HX.out.c 4 _ rfl
              have s5 := HX.out.c 5 _ rfl
              have s6 := HX.out.c 6 _ rfl
              first
                | refine bodyPost_ret (v := .tuple #[.agg #[.string x0, .int .i64 q0, .int .i64 q1, .int .i64 q2, .int .i64 q3, .slice (some ⟨w2.heap.size, 0, none⟩) 0 0, .string ⟨#[]⟩], .bool true]) (by simp [results, Tryz.results4, go_sem, s0, s1, s2, s3, s4, s5, s6]) rfl ?_
                | fail "YES"
              rw [HYES.out]
              have GL := (((((((HS4.out.low.setCell (p := ⟨w.heap.size, 0, none⟩) (Nat.le_refl _) (.string x0)).setCell (p := ⟨w.heap.size, 1, none⟩) (Nat.le_refl _) (.int .i64 q0)).setCell (p := ⟨w.heap.size, 2, none⟩) (Nat.le_refl _) (.int .i64 q1)).setCell (p := ⟨w.heap.size, 3, none⟩) (Nat.le_refl _) (.int .i64 q2)).setCell (p := ⟨w.heap.size, 4, none⟩) (Nat.le_refl _) (.int .i64 q3)).setCell (p := ⟨w.heap.size, 5, none⟩) (Nat.le_refl _) (.slice (some ⟨w2.heap.size, 0, none⟩) 0 0)).setCell (p := ⟨w.heap.size, 6, none⟩) (Nat.le_refl _) (.string ⟨#[]⟩))
              first
                | exact ⟨(some ⟨w2.heap.size, 0, none⟩), 0, rfl, .inl rfl, GL⟩
                | exact ⟨(some ⟨w2.heap.size, 0, none⟩), ⟨0, rfl⟩, .inl rfl, GL⟩
      · have h2' : ((nW : Int) == 2) = false := by rw [beq_eq_false_iff_ne]; omega
        have HPT : Hid (pcPth ws = (p : Int)) := hid (by
          unfold pcPth
          rw [HX0.out]
          show (if (x0.toList == [107, 101, 121, 115] && _) = true then _ else _) = _
          rw [hk, HNW.out, decide_eq_false h2, hq]; rfl)
        cases hl : ((nW : Int) != 1 + (r : Int) + (m : Int) + (p : Int) + (v : Int)) with
        | true =>
          have HNO : Hid (R = none) := hid (by
            rw [← HPC.out]
            unfold pcS
            rw [HWS.out]
            simp only []
            rw [HX0.out, HPT.out, HNW.out, hq, if_pos (.inr (by simpa using hl))])
          have n0 := HN2.out.c 0 _ rfl
          have r0 := HR2.out.c 0 _ rfl
          have n1 := HN2.out.c 1 _ rfl
          have r1 := HR2.out.c 1 _ rfl
          have n2 := HN2.out.c 2 _ rfl
          have r2 := HR2.out.c 2 _ rfl
          have n3 := HN2.out.c 3 _ rfl
          have r3 := HR2.out.c 3 _ rfl
          have n4 := HN2.out.c 4 _ rfl
          have r4 := HR2.out.c 4 _ rfl
          have n5 := HN2.out.c 5 _ rfl
          have r5 := HR2.out.c 5 _ rfl
          have n6 := HN2.out.c 6 _ rfl
          have r6 := HR2.out.c 6 _ rfl
          have rf := HR2.out.f
          have HX := hid ((((((((HR2.out.set 0 (.string ⟨#[]⟩) (by decide)).set 1 (.int .i64 0) (by decide)).set 2 (.int .i64 0) (by decide)).set 3 (.int .i64 0) (by decide)).set 4 (.int .i64 0) (by decide)).set 5 (.slice none 0 0) (by decide)).set 6 (.string ⟨#[]⟩) (by decide)))
          go_wp2_with fail
          have s0 := HX.out.c 0 _ rfl
          have s1 := HX.out.c 1 _ rfl
          have s2 := HX.out.c 2 _ rfl
          have s3 := HX.out.c 3 _ rfl
          have s4 := HX.out.c 4 _ rfl
          have s5 := HX.out.c 5 _ rfl
          have s6 := HX.out.c 6 _ rfl
          refine bodyPost_ret (v := .tuple #[.agg #[.string ⟨#[]⟩, .int .i64 0, .int .i64 0, .int .i64 0, .int .i64 0, .slice none 0 0, .string ⟨#[]⟩], .bool false]) (by simp [results, Tryz.results4, go_sem, s0, s1, s2, s3, s4, s5, s6]) rfl ?_
          rw [HNO.out]
          have G3 := (((((((HLW.out.setCell (p := ⟨w.heap.size, 0, none⟩) (Nat.le_refl _) (.string ⟨#[]⟩)).setCell (p := ⟨w.heap.size, 1, none⟩) (Nat.le_refl _) (.int .i64 0)).setCell (p := ⟨w.heap.size, 2, none⟩) (Nat.le_refl _) (.int .i64 0)).setCell (p := ⟨w.heap.size, 3, none⟩) (Nat.le_refl _) (.int .i64 0)).setCell (p := ⟨w.heap.size, 4, none⟩) (Nat.le_refl _) (.int .i64 0)).setCell (p := ⟨w.heap.size, 5, none⟩) (Nat.le_refl _) (.slice none 0 0)).setCell (p := ⟨w.heap.size, 6, none⟩) (Nat.le_refl _) (.string ⟨#[]⟩))
          first
            | exact ⟨none, 0, rfl, .inl rfl, G3⟩
            | exact ⟨none, ⟨0, rfl⟩, .inl rfl, G3⟩
        | false =>
          have HLN : Hid ((nW : Int) = 1 + (r : Int) + (m : Int) + (p : Int) + (v : Int)) := hid (by simpa using hl)
          obtain ⟨W3, hW3⟩ : ∃ W3, ((w2.alloc (.cells #[] 9)).alloc (.cells #[.string x0, .int .i64 0, .int .i64 0, .int .i64 0, .int .i64 0, .slice (some ⟨w2.heap.size, 0, none⟩) 0 0, .string ⟨#[]⟩] 24)).alloc (.cells #[.int .i64 0, .int .i64 0, .int .i64 0, .int .i64 0] 3) = W3 := ⟨_, rfl⟩
          have b3 : Below w2.heap.size w2 W3 := by rw [← hW3]; exact (below2 _ _ _).alloc (by simp; omega) _
          have HZ2 : Hid (w.heap.size + 2 ≤ w2.heap.size) := hid (by
            have h1 := HN2.out.lt
            omega)
          have HPS : Hid (PS w w2 W3 gw nW ws [.string x0, .int .i64 0, .int .i64 0, .int .i64 0, .int .i64 0, .slice (some ⟨w2.heap.size, 0, none⟩) 0 0, .string ⟨#[]⟩] (pcG ws r 0)) := hid (by
            refine ⟨keepS HLW.out b3, HR2.out.below b3, HN2.out.below b3, ?_, ?_, fun i hi => (b3.cell (p := ⟨gw, i, none⟩) HGW2.out).trans (HCS2.out i hi), HZ2.out, HGW2.out⟩
            · rw [← hW3]
              have := BxL.made (w2.alloc (.cells #[] 9)) [.string x0, .int .i64 0, .int .i64 0, .int .i64 0, .int .i64 0, .slice (some ⟨w2.heap.size, 0, none⟩) 0 0, .string ⟨#[]⟩] 24
              rw [show (w2.alloc (.cells #[] 9)).heap.size = w2.heap.size + 1 by simp] at this
              exact this.below ((Below.refl _ _).alloc (Nat.le_refl _) _)
            · rw [← hW3]
              have := BxL.made ((w2.alloc (.cells #[] 9)).alloc (.cells #[.string x0, .int .i64 0, .int .i64 0, .int .i64 0, .int .i64 0, .slice (some ⟨w2.heap.size, 0, none⟩) 0 0, .string ⟨#[]⟩] 24)) [.int .i64 0, .int .i64 0, .int .i64 0, .int .i64 0] 3
              rw [show ((w2.alloc (.cells #[] 9)).alloc (.cells #[.string x0, .int .i64 0, .int .i64 0, .int .i64 0, .int .i64 0, .slice (some ⟨w2.heap.size, 0, none⟩) 0 0, .string ⟨#[]⟩] 24)).heap.size = w2.heap.size + 1 + 1 by simp] at this
              exact this)
          have HEQ := hid (pcS_eq (pt := p) HWS.out (by rw [HX0.out]; exact hq) HPT.out (by rw [HNW.out]; exact HLN.out))
          have HW3 := hid hW3
          clear b3 hW3 HR2 HN2 HCS2
          go_wp2_with fail
          rw [HW3.out]
          clear c0
          go_loopw [12] (fun i wr => ∃ k : Nat, k ≤ r + m ∧ i = .int .i64 k ∧ Hid (∀ j, j < k → pcBad ws r j = false) ∧ Hid (PS w w2 wr gw nW ws [.string x0, .int .i64 0, .int .i64 0, .int .i64 0, .int .i64 0, .slice (some ⟨w2.heap.size, 0, none⟩) 0 0, .string ⟨#[]⟩] (pcG ws r k))) (fun i _ => r + m - (intOf i).toNat)
          case atStart => exact ⟨0, Nat.zero_le _, rfl, hid (fun j hj => by omega), HPS⟩
          case round =>
            clear HPS
            obtain ⟨k, hk1, rfl, HOK, HS⟩ := hrel
            by_cases hlt : k < r + m
            · have i1 : (0 : Int) ≤ 1 + (k : Int) := by omega
              have i2 : 1 + (k : Int) < (nW : Int) := by have := HLN.out; omega
              have i3 : (k : Int) < (r : Int) + (m : Int) := by omega
              have c1 := HS.out.wd (1 + k) (by have := HLN.out; omega)
              have hsz : (gS ws (1 + k)).size ≤ 1048576 := by rw [← HWS.out]; exact Nat.le_trans (gS_size _) hs
              have HV : Hid (pcN ws r k = if k < r then decF (gS ws (1 + k)) 1 else decF (gS ws (1 + k)) 5) := hid rfl
              obtain ⟨y, hy⟩ : ∃ y, gS ws (1 + k) = y := ⟨_, rfl⟩
              rw [hy] at c1 hsz HV
              have HD5 := hid (l7DecimalC y 5 wr hsz (by omega))
              have HD1 := hid (l7DecimalC y 1 wr hsz (by omega))
              obtain ⟨d5, hd5⟩ : ∃ d5, decF y 5 = d5 := ⟨_, rfl⟩
              obtain ⟨d1, hd1⟩ : ∃ d1, decF y 1 = d1 := ⟨_, rfl⟩
              rw [hd5] at HD5 HV
              rw [hd1] at HD1 HV
              clear hd5 hd1 hy hsz
              go_wp2_with fail
              refine HD5.out.mono ?_
              rintro e w' ⟨rfl, hw'⟩
              obtain rfl : wr = w' := hw'.symm
              clear HD5
              by_cases hkr : k < r
              · have j1 : (k : Int) < (r : Int) := by omega
                rw [if_pos hkr] at HV
                have HKK : Hid (pcK r k = k) := hid (by unfold pcK; rw [if_pos hkr])
                go_wp2_with fail
                refine HD1.out.mono ?_
                rintro e w' ⟨rfl, hw'⟩
                obtain rfl : wr = w' := hw'.symm
                clear HD1
                by_cases hb0 : d1 < 0
                · have HNO : Hid (R = none) := hid (by rw [← HPC.out, HEQ.out, if_pos (pcOk_f hlt (by unfold pcBad; rw [HV.out]; simp [hb0]))])
                  have n0 := HS.out.n.c 0 _ rfl
                  have r0 := HS.out.r.c 0 _ rfl
                  have n1 := HS.out.n.c 1 _ rfl
                  have r1 := HS.out.r.c 1 _ rfl
                  have n2 := HS.out.n.c 2 _ rfl
                  have r2 := HS.out.r.c 2 _ rfl
                  have n3 := HS.out.n.c 3 _ rfl
                  have r3 := HS.out.r.c 3 _ rfl
                  have n4 := HS.out.n.c 4 _ rfl
                  have r4 := HS.out.r.c 4 _ rfl
                  have n5 := HS.out.n.c 5 _ rfl
                  have r5 := HS.out.r.c 5 _ rfl
                  have n6 := HS.out.n.c 6 _ rfl
                  have r6 := HS.out.r.c 6 _ rfl
                  have rf := HS.out.r.f
                  have HX := hid ((((((((HS.out.r.set 0 (.string ⟨#[]⟩) (by decide)).set 1 (.int .i64 0) (by decide)).set 2 (.int .i64 0) (by decide)).set 3 (.int .i64 0) (by decide)).set 4 (.int .i64 0) (by decide)).set 5 (.slice none 0 0) (by decide)).set 6 (.string ⟨#[]⟩) (by decide)))
                  go_wp2_with fail
                  have s0 := HX.out.c 0 _ rfl
                  have s1 := HX.out.c 1 _ rfl
                  have s2 := HX.out.c 2 _ rfl
                  have s3 := HX.out.c 3 _ rfl
                  have s4 := HX.out.c 4 _ rfl
                  have s5 := HX.out.c 5 _ rfl
                  have s6 := HX.out.c 6 _ rfl
                  refine bodyPost_ret (v := .tuple #[.agg #[.string ⟨#[]⟩, .int .i64 0, .int .i64 0, .int .i64 0, .int .i64 0, .slice none 0 0, .string ⟨#[]⟩], .bool false]) (by simp [results, Tryz.results4, go_sem, s0, s1, s2, s3, s4, s5, s6]) rfl ?_
                  rw [HNO.out]
                  have G3 := (((((((HS.out.low.setCell (p := ⟨w.heap.size, 0, none⟩) (Nat.le_refl _) (.string ⟨#[]⟩)).setCell (p := ⟨w.heap.size, 1, none⟩) (Nat.le_refl _) (.int .i64 0)).setCell (p := ⟨w.heap.size, 2, none⟩) (Nat.le_refl _) (.int .i64 0)).setCell (p := ⟨w.heap.size, 3, none⟩) (Nat.le_refl _) (.int .i64 0)).setCell (p := ⟨w.heap.size, 4, none⟩) (Nat.le_refl _) (.int .i64 0)).setCell (p := ⟨w.heap.size, 5, none⟩) (Nat.le_refl _) (.slice none 0 0)).setCell (p := ⟨w.heap.size, 6, none⟩) (Nat.le_refl _) (.string ⟨#[]⟩))
                  first
                    | exact ⟨none, 0, rfl, .inl rfl, G3⟩
                    | exact ⟨none, ⟨0, rfl⟩, .inl rfl, G3⟩
                · by_cases hb7 : d1 > 7
                  · have HNO : Hid (R = none) := hid (by rw [← HPC.out, HEQ.out, if_pos (pcOk_f hlt (by unfold pcBad; rw [HV.out, decide_eq_true hkr, decide_eq_true hb7]; simp))])
                    have hb7' : 7 < d1 := hb7
                    have n0 := HS.out.n.c 0 _ rfl
                    have r0 := HS.out.r.c 0 _ rfl
                    have n1 := HS.out.n.c 1 _ rfl
                    have r1 := HS.out.r.c 1 _ rfl
                    have n2 := HS.out.n.c 2 _ rfl
                    have r2 := HS.out.r.c 2 _ rfl
                    have n3 := HS.out.n.c 3 _ rfl
                    have r3 := HS.out.r.c 3 _ rfl
                    have n4 := HS.out.n.c 4 _ rfl
                    have r4 := HS.out.r.c 4 _ rfl
                    have n5 := HS.out.n.c 5 _ rfl
                    have r5 := HS.out.r.c 5 _ rfl
                    have n6 := HS.out.n.c 6 _ rfl
                    have r6 := HS.out.r.c 6 _ rfl
                    have rf := HS.out.r.f
                    have HX := hid ((((((((HS.out.r.set 0 (.string ⟨#[]⟩) (by decide)).set 1 (.int .i64 0) (by decide)).set 2 (.int .i64 0) (by decide)).set 3 (.int .i64 0) (by decide)).set 4 (.int .i64 0) (by decide)).set 5 (.slice none 0 0) (by decide)).set 6 (.string ⟨#[]⟩) (by decide)))
                    go_wp2_with fail
                    have s0 := HX.out.c 0 _ rfl
                    have s1 := HX.out.c 1 _ rfl
                    have s2 := HX.out.c 2 _ rfl
                    have s3 := HX.out.c 3 _ rfl
                    have s4 := HX.out.c 4 _ rfl
                    have s5 := HX.out.c 5 _ rfl
                    have s6 := HX.out.c 6 _ rfl
                    refine bodyPost_ret (v := .tuple #[.agg #[.string ⟨#[]⟩, .int .i64 0, .int .i64 0, .int .i64 0, .int .i64 0, .slice none 0 0, .string ⟨#[]⟩], .bool false]) (by simp [results, Tryz.results4, go_sem, s0, s1, s2, s3, s4, s5, s6]) rfl ?_
                    rw [HNO.out]
                    have G3 := (((((((HS.out.low.setCell (p := ⟨w.heap.size, 0, none⟩) (Nat.le_refl _) (.string ⟨#[]⟩)).setCell (p := ⟨w.heap.size, 1, none⟩) (Nat.le_refl _) (.int .i64 0)).setCell (p := ⟨w.heap.size, 2, none⟩) (Nat.le_refl _) (.int .i64 0)).setCell (p := ⟨w.heap.size, 3, none⟩) (Nat.le_refl _) (.int .i64 0)).setCell (p := ⟨w.heap.size, 4, none⟩) (Nat.le_refl _) (.int .i64 0)).setCell (p := ⟨w.heap.size, 5, none⟩) (Nat.le_refl _) (.slice none 0 0)).setCell (p := ⟨w.heap.size, 6, none⟩) (Nat.le_refl _) (.string ⟨#[]⟩))
                    first
                      | exact ⟨none, 0, rfl, .inl rfl, G3⟩
                      | exact ⟨none, ⟨0, rfl⟩, .inl rfl, G3⟩
                  · have hb7' : d1 ≤ 7 := by omega
                    have hb0' : 0 ≤ d1 := by omega
                    have k3 : ((k : Int) == 3) = false := by rw [beq_eq_false_iff_ne]; omega
                    have HOK2 : Hid (∀ j, j < k + 1 → pcBad ws r j = false) := hid (fun j hj => by
                      by_cases e : j = k
                      · rw [e]; unfold pcBad; rw [HV.out, HKK.out, decide_eq_false hb0, decide_eq_false hb7, decide_eq_false (show ¬ k = 3 by omega)]; simp
                      · exact HOK.out j (by omega))
                    have HS2 : Hid (PS w w2 (wr.setCell ⟨w2.heap.size + 1 + 1, k, none⟩ (.int .i64 d1)) gw nW ws [.string x0, .int .i64 0, .int .i64 0, .int .i64 0, .int .i64 0, .slice (some ⟨w2.heap.size, 0, none⟩) 0 0, .string ⟨#[]⟩] (pcG ws r (k + 1))) := hid (by
                      show PS _ _ _ _ _ _ _ ((pcG ws r k).set (pcK r k) (pcN ws r k))
                      rw [HKK.out, HV.out]
                      exact HS.out.setG k d1 (by rw [pcG_len]; omega))
                    have g0 := HS.out.g.c k (.int .i64 ((pcG ws r k).getD k 0)) (by simp [List.getD, show k < (pcG ws r k).length by rw [pcG_len]; omega])
                    have gf := HS.out.g.f
                    have i4 : (0 : Int) ≤ (k : Int) := by omega
                    have i5 : (k : Int) < 4 := by omega
                    clear HS HOK HV hb0 hb7 c1
                    go_wp2_with fail
                    go_roundw
                    case rel => exact ⟨k + 1, hlt, by go_num, HOK2, HS2⟩
                    case measure => simp [intOf]; omega
              · have j1 : ¬ (k : Int) < (r : Int) := by omega
                rw [if_neg hkr] at HV
                obtain ⟨kn, hkn⟩ : ∃ kn : Nat, 2 + (k : Int) - (r : Int) = (kn : Int) := ⟨2 + k - r, by omega⟩
                have HKN : Hid (pcK r k = kn) := hid (by unfold pcK; rw [if_neg hkr]; omega)
                have hkn4 : kn < 4 := by omega
                clear HD1
                by_cases hb0 : d5 < 0
                · have HNO : Hid (R = none) := hid (by rw [← HPC.out, HEQ.out, if_pos (pcOk_f hlt (by unfold pcBad; rw [HV.out]; simp [hb0]))])
                  have n0 := HS.out.n.c 0 _ rfl
                  have r0 := HS.out.r.c 0 _ rfl
                  have n1 := HS.out.n.c 1 _ rfl
                  have r1 := HS.out.r.c 1 _ rfl
                  have n2 := HS.out.n.c 2 _ rfl
                  have r2 := HS.out.r.c 2 _ rfl
                  have n3 := HS.out.n.c 3 _ rfl
                  have r3 := HS.out.r.c 3 _ rfl
                  have n4 := HS.out.n.c 4 _ rfl
                  have r4 := HS.out.r.c 4 _ rfl
                  have n5 := HS.out.n.c 5 _ rfl
                  have r5 := HS.out.r.c 5 _ rfl
                  have n6 := HS.out.n.c 6 _ rfl
                  have r6 := HS.out.r.c 6 _ rfl
                  have rf := HS.out.r.f
                  have HX := hid ((((((((HS.out.r.set 0 (.string ⟨#[]⟩) (by decide)).set 1 (.int .i64 0) (by decide)).set 2 (.int .i64 0) (by decide)).set 3 (.int .i64 0) (by decide)).set 4 (.int .i64 0) (by decide)).set 5 (.slice none 0 0) (by decide)).set 6 (.string ⟨#[]⟩) (by decide)))
                  go_wp2_with fail
                  have s0 := HX.out.c 0 _ rfl
                  have s1 := HX.out.c 1 _ rfl
                  have s2 := HX.out.c 2 _ rfl
                  have s3 := HX.out.c 3 _ rfl
                  have s4 := HX.out.c 4 _ rfl
                  have s5 := HX.out.c 5 _ rfl
                  have s6 := HX.out.c 6 _ rfl
                  refine bodyPost_ret (v := .tuple #[.agg #[.string ⟨#[]⟩, .int .i64 0, .int .i64 0, .int .i64 0, .int .i64 0, .slice none 0 0, .string ⟨#[]⟩], .bool false]) (by simp [results, Tryz.results4, go_sem, s0, s1, s2, s3, s4, s5, s6]) rfl ?_
                  rw [HNO.out]
                  have G3 := (((((((HS.out.low.setCell (p := ⟨w.heap.size, 0, none⟩) (Nat.le_refl _) (.string ⟨#[]⟩)).setCell (p := ⟨w.heap.size, 1, none⟩) (Nat.le_refl _) (.int .i64 0)).setCell (p := ⟨w.heap.size, 2, none⟩) (Nat.le_refl _) (.int .i64 0)).setCell (p := ⟨w.heap.size, 3, none⟩) (Nat.le_refl _) (.int .i64 0)).setCell (p := ⟨w.heap.size, 4, none⟩) (Nat.le_refl _) (.int .i64 0)).setCell (p := ⟨w.heap.size, 5, none⟩) (Nat.le_refl _) (.slice none 0 0)).setCell (p := ⟨w.heap.size, 6, none⟩) (Nat.le_refl _) (.string ⟨#[]⟩))
                  first
                    | exact ⟨none, 0, rfl, .inl rfl, G3⟩
                    | exact ⟨none, ⟨0, rfl⟩, .inl rfl, G3⟩
                · have hb0' : 0 ≤ d5 := by omega
                  by_cases hb3 : kn = 3 ∧ d5 > 255
                  · have HNO : Hid (R = none) := hid (by rw [← HPC.out, HEQ.out, if_pos (pcOk_f hlt (by unfold pcBad; rw [HV.out, HKN.out, decide_eq_true hb3.1, decide_eq_true hb3.2]; simp))])
                    have k3 : ((kn : Int) == 3) = true := by rw [hb3.1]; rfl
                    have hb7' : 255 < d5 := hb3.2
                    have n0 := HS.out.n.c 0 _ rfl
                    have r0 := HS.out.r.c 0 _ rfl
                    have n1 := HS.out.n.c 1 _ rfl
                    have r1 := HS.out.r.c 1 _ rfl
                    have n2 := HS.out.n.c 2 _ rfl
                    have r2 := HS.out.r.c 2 _ rfl
                    have n3 := HS.out.n.c 3 _ rfl
                    have r3 := HS.out.r.c 3 _ rfl
                    have n4 := HS.out.n.c 4 _ rfl
                    have r4 := HS.out.r.c 4 _ rfl
                    have n5 := HS.out.n.c 5 _ rfl
                    have r5 := HS.out.r.c 5 _ rfl
                    have n6 := HS.out.n.c 6 _ rfl
                    have r6 := HS.out.r.c 6 _ rfl
                    have rf := HS.out.r.f
                    have HX := hid ((((((((HS.out.r.set 0 (.string ⟨#[]⟩) (by decide)).set 1 (.int .i64 0) (by decide)).set 2 (.int .i64 0) (by decide)).set 3 (.int .i64 0) (by decide)).set 4 (.int .i64 0) (by decide)).set 5 (.slice none 0 0) (by decide)).set 6 (.string ⟨#[]⟩) (by decide)))
                    go_wp2_with fail
                    have s0 := HX.out.c 0 _ rfl
                    have s1 := HX.out.c 1 _ rfl
                    have s2 := HX.out.c 2 _ rfl
                    have s3 := HX.out.c 3 _ rfl
                    have s4 := HX.out.c 4 _ rfl
                    have s5 := HX.out.c 5 _ rfl
                    have s6 := HX.out.c 6 _ rfl
                    refine bodyPost_ret (v := .tuple #[.agg #[.string ⟨#[]⟩, .int .i64 0, .int .i64 0, .int .i64 0, .int .i64 0, .slice none 0 0, .string ⟨#[]⟩], .bool false]) (by simp [results, Tryz.results4, go_sem, s0, s1, s2, s3, s4, s5, s6]) rfl ?_
                    rw [HNO.out]
                    have G3 := (((((((HS.out.low.setCell (p := ⟨w.heap.size, 0, none⟩) (Nat.le_refl _) (.string ⟨#[]⟩)).setCell (p := ⟨w.heap.size, 1, none⟩) (Nat.le_refl _) (.int .i64 0)).setCell (p := ⟨w.heap.size, 2, none⟩) (Nat.le_refl _) (.int .i64 0)).setCell (p := ⟨w.heap.size, 3, none⟩) (Nat.le_refl _) (.int .i64 0)).setCell (p := ⟨w.heap.size, 4, none⟩) (Nat.le_refl _) (.int .i64 0)).setCell (p := ⟨w.heap.size, 5, none⟩) (Nat.le_refl _) (.slice none 0 0)).setCell (p := ⟨w.heap.size, 6, none⟩) (Nat.le_refl _) (.string ⟨#[]⟩))
                    first
                      | exact ⟨none, 0, rfl, .inl rfl, G3⟩
                      | exact ⟨none, ⟨0, rfl⟩, .inl rfl, G3⟩
                  · have HOK2 : Hid (∀ j, j < k + 1 → pcBad ws r j = false) := hid (fun j hj => by
                      by_cases e : j = k
                      · rw [e]; unfold pcBad; rw [HV.out, HKN.out, decide_eq_false hb0, decide_eq_false hkr]
                        by_cases e3 : kn = 3
                        · rw [decide_eq_false (fun h => hb3 ⟨e3, h⟩)]; simp
                        · rw [decide_eq_false e3]; simp
                      · exact HOK.out j (by omega))
                    have HS2 : Hid (PS w w2 (wr.setCell ⟨w2.heap.size + 1 + 1, kn, none⟩ (.int .i64 d5)) gw nW ws [.string x0, .int .i64 0, .int .i64 0, .int .i64 0, .int .i64 0, .slice (some ⟨w2.heap.size, 0, none⟩) 0 0, .string ⟨#[]⟩] (pcG ws r (k + 1))) := hid (by
                      show PS _ _ _ _ _ _ _ ((pcG ws r k).set (pcK r k) (pcN ws r k))
                      rw [HKN.out, HV.out]
                      exact HS.out.setG kn d5 (by rw [pcG_len]; omega))
                    have g0 := HS.out.g.c kn (.int .i64 ((pcG ws r k).getD kn 0)) (by simp [List.getD, show kn < (pcG ws r k).length by rw [pcG_len]; omega])
                    have gf := HS.out.g.f
                    have i4 : (0 : Int) ≤ (kn : Int) := by omega
                    have i5 : (kn : Int) < 4 := by omega
                    by_cases e3 : kn = 3
                    · have k3 : ((kn : Int) == 3) = true := by rw [e3]; rfl
                      have hb7' : d5 ≤ 255 := by
                        have : ¬ d5 > 255 := fun h => hb3 ⟨e3, h⟩
                        omega
                      clear HS HOK HV hb0 hb3 c1 e3
                      go_wp2_with fail
                      go_roundw
                      case rel => exact ⟨k + 1, hlt, by go_num, HOK2, HS2⟩
                      case measure => simp [intOf]; omega
                    · have k3 : ((kn : Int) == 3) = false := by rw [beq_eq_false_iff_ne]; omega
                      clear HS HOK HV hb0 hb3 c1
                      go_wp2_with fail
                      go_roundw
                      case rel => exact ⟨k + 1, hlt, by go_num, HOK2, HS2⟩
                      case measure => simp [intOf]; omega
            · have HKE : Hid (k = r + m) := hid (by omega)
              have i3 : ¬ (k : Int) < (r : Int) + (m : Int) := by omega
              have HOKT : Hid (pcOk ws r m = true) := hid (pcOk_t (fun j hj => HOK.out j (by omega)))
              obtain ⟨q0, q1, q2, q3, hG⟩ := pcG_four ws r k
              rw [hG] at HS
              rw [HKE.out] at hG
              have HG := hid hG
              have g0 := HS.out.g.c 0 (.int .i64 q0) rfl
              have g1 := HS.out.g.c 1 (.int .i64 q1) rfl
              have g2 := HS.out.g.c 2 (.int .i64 q2) rfl
              have g3 := HS.out.g.c 3 (.int .i64 q3) rfl
              have d1 := HS.out.c.c 1 _ rfl
              have d2 := HS.out.c.c 2 _ rfl
              have d3 := HS.out.c.c 3 _ rfl
              have d4 := HS.out.c.c 4 _ rfl
              have cf := HS.out.c.f
              obtain ⟨w4, hw4⟩ : ∃ w4, ((((wr.setCell ⟨w2.heap.size + 1, 1, none⟩ (.int .i64 q0)).setCell ⟨w2.heap.size + 1, 2, none⟩ (.int .i64 q1)).setCell ⟨w2.heap.size + 1, 3, none⟩ (.int .i64 q2)).setCell ⟨w2.heap.size + 1, 4, none⟩ (.int .i64 q3)) = w4 := ⟨_, rfl⟩
              have HS4 : Hid (PS w w2 w4 gw nW ws [.string x0, .int .i64 q0, .int .i64 q1, .int .i64 q2, .int .i64 q3, .slice (some ⟨w2.heap.size, 0, none⟩) 0 0, .string ⟨#[]⟩] [q0, q1, q2, q3]) := hid (by rw [← hw4]; exact ((((HS.out.setC 1 (.int .i64 q0) (by simp)).setC 2 (.int .i64 q1) (by simp)).setC 3 (.int .i64 q2) (by simp)).setC 4 (.int .i64 q3) (by simp)))
              have HW4 := hid hw4
              clear hw4 HOK HS hG hk1
              by_cases hp : p = 1
              · have hp' : ((p : Int) == 1) = true := by rw [hp]; rfl
                have i6 : (0 : Int) ≤ 1 + (r : Int) := by omega
                have i7 : 1 + (r : Int) < (nW : Int) := by have := HLN.out; omega
                have hsz : (gS ws (1 + r)).size ≤ 1048576 := by rw [← HWS.out]; exact Nat.le_trans (gS_size _) hs
                have c5 := HS4.out.wd (1 + r) (by have := HLN.out; omega)
                have HPP : Hid (pcP ws r (p : Int) = cutW 47 (gS ws (1 + r))) := hid (by unfold pcP; rw [if_pos (by omega)])
                obtain ⟨y, hy⟩ : ∃ y, gS ws (1 + r) = y := ⟨_, rfl⟩
                rw [hy] at c5 hsz HPP
                have HC : Hid (Calls Tryz.prog 9 #[.string y, .int .u8 47] w4 fun e w' => ∃ v, e = .returned v ∧ SO w' w4.heap.size v (cutW 47 y) ∧ Below w4.heap.size w4 w') := hid (l7CutC y 47 w4 hsz)
                have HPL : Hid ((cutW 47 y).length ≤ 4194304) := hid (by have := cut_len 47 y; omega)
                obtain ⟨pl, hpl⟩ : ∃ pl, cutW 47 y = pl := ⟨_, rfl⟩
                rw [hpl] at HC HPP HPL
                have hw4 := HW4.out
                clear hpl hy hsz
                go_wp2_with fail
                refine HC.out.mono ?_
                rintro e w5 ⟨v5, rfl, o5, b5⟩
                obtain ⟨g5, c5, rfl, hg5, hcs5⟩ := o5.cells2
                have hB5 : w4.heap.size ≤ g5 := (o5.lt g5 rfl).1
                obtain ⟨pn, hpn⟩ : ∃ pn, pl.length = pn := ⟨_, rfl⟩
                have HPN := hid hpn
                rw [hpn] at hcs5 ⊢
                have HS5 := hid (HS4.out.below b5)
                have HF5 : Hid (w2.heap.size + 1 < g5) := hid (Nat.lt_of_lt_of_le HS4.out.c.lt hB5)
                have HZW : Hid (w.heap.size + 2 ≤ w2.heap.size) := hid HS4.out.hw
                have HFAR : Hid (∀ x, (some ⟨g5, 0, none⟩ : Option Addr) = some x → w.heap.size ≠ x.block) := hid (fun x hx => by
                  injection hx with hx
                  subst hx
                  have h1 := HF5.out
                  have h2 := HZW.out
                  show w.heap.size ≠ g5
                  omega)
                have HFAR2 : Hid (∀ x, (some ⟨g5, 0, none⟩ : Option Addr) = some x → w2.heap.size + 1 ≠ x.block) := hid (fun x hx => by
                  injection hx with hx
                  subst hx
                  have h1 := HF5.out
                  show w2.heap.size + 1 ≠ g5
                  omega)
                have HSG5 : Hid (SSeg w5 (some ⟨g5, 0, none⟩) pl) := hid (.inr ⟨g5, 0, rfl, hg5, fun i hi => by rw [Nat.zero_add]; exact hcs5 i (by rw [← HPN.out]; exact hi)⟩)
                have o5' := HS5.out.c.c 5 _ rfl
                have f5 := HS5.out.c.f
                obtain ⟨w6, hw6⟩ : ∃ w6, w5.setCell ⟨w2.heap.size + 1, 5, none⟩ (.slice (some ⟨g5, 0, none⟩) pn c5) = w6 := ⟨_, rfl⟩
                have HS6 : Hid (PS w w2 w6 gw nW ws [.string x0, .int .i64 q0, .int .i64 q1, .int .i64 q2, .int .i64 q3, .slice (some ⟨g5, 0, none⟩) pn c5, .string ⟨#[]⟩] [q0, q1, q2, q3]) := hid (by rw [← hw6]; exact HS5.out.setC 5 _ (by simp))
                have HSG6 : Hid (SSeg w6 (some ⟨g5, 0, none⟩) pl) := hid (by rw [← hw6]; exact HSG5.out.setFar _ _ HFAR2.out)
                have HH := hid (l7HasC (some ⟨g5, 0, none⟩) c5 pl ⟨#[]⟩ w6 HPL.out HSG6.out)
                rw [HPN.out] at HH
                obtain ⟨hb, hhb⟩ : ∃ hb, hasT pl ⟨#[]⟩ = hb := ⟨_, rfl⟩
                rw [hhb] at HH
                have HHB := hid hhb
                have n5 := HS6.out.c.c 5 _ rfl
                clear hw4 HC HS4 HW4 HSG5 HS5 hcs5 hg5 hB5 o5 b5 hpn hhb
                go_wp2_with fail
                refine HH.out.mono ?_
                rintro e w' ⟨rfl, hw'⟩
                obtain rfl : w6 = w' := hw'.symm
                clear HH hw6 n5 o5' f5
                cases hb with
                | true =>
                  have HNO : Hid (R = none) := hid (by rw [← HPC.out, HEQ.out, if_neg (by rw [HOKT.out]; simp), if_pos ⟨by omega, by rw [HPP.out]; exact HHB.out⟩])
                  have n0 := HS6.out.n.c 0 _ rfl
                  have r0 := HS6.out.r.c 0 _ rfl
                  have n1 := HS6.out.n.c 1 _ rfl
                  have r1 := HS6.out.r.c 1 _ rfl
                  have n2 := HS6.out.n.c 2 _ rfl
                  have r2 := HS6.out.r.c 2 _ rfl
                  have n3 := HS6.out.n.c 3 _ rfl
                  have r3 := HS6.out.r.c 3 _ rfl
                  have n4 := HS6.out.n.c 4 _ rfl
                  have r4 := HS6.out.r.c 4 _ rfl
                  have n5 := HS6.out.n.c 5 _ rfl
                  have r5 := HS6.out.r.c 5 _ rfl
                  have n6 := HS6.out.n.c 6 _ rfl
                  have r6 := HS6.out.r.c 6 _ rfl
                  have rf := HS6.out.r.f
                  have HX := hid ((((((((HS6.out.r.set 0 (.string ⟨#[]⟩) (by decide)).set 1 (.int .i64 0) (by decide)).set 2 (.int .i64 0) (by decide)).set 3 (.int .i64 0) (by decide)).set 4 (.int .i64 0) (by decide)).set 5 (.slice none 0 0) (by decide)).set 6 (.string ⟨#[]⟩) (by decide)))
                  go_wp2_with fail
                  have s0 := HX.out.c 0 _ rfl
                  have s1 := HX.out.c 1 _ rfl
                  have s2 := HX.out.c 2 _ rfl
                  have s3 := HX.out.c 3 _ rfl
                  have s4 := HX.out.c 4 _ rfl
                  have s5 := HX.out.c 5 _ rfl
                  have s6 := HX.out.c 6 _ rfl
                  refine bodyPost_ret (v := .tuple #[.agg #[.string ⟨#[]⟩, .int .i64 0, .int .i64 0, .int .i64 0, .int .i64 0, .slice none 0 0, .string ⟨#[]⟩], .bool false]) (by simp [results, Tryz.results4, go_sem, s0, s1, s2, s3, s4, s5, s6]) rfl ?_
                  rw [HNO.out]
                  have G3 := (((((((HS6.out.low.setCell (p := ⟨w.heap.size, 0, none⟩) (Nat.le_refl _) (.string ⟨#[]⟩)).setCell (p := ⟨w.heap.size, 1, none⟩) (Nat.le_refl _) (.int .i64 0)).setCell (p := ⟨w.heap.size, 2, none⟩) (Nat.le_refl _) (.int .i64 0)).setCell (p := ⟨w.heap.size, 3, none⟩) (Nat.le_refl _) (.int .i64 0)).setCell (p := ⟨w.heap.size, 4, none⟩) (Nat.le_refl _) (.int .i64 0)).setCell (p := ⟨w.heap.size, 5, none⟩) (Nat.le_refl _) (.slice none 0 0)).setCell (p := ⟨w.heap.size, 6, none⟩) (Nat.le_refl _) (.string ⟨#[]⟩))
                  first
                    | exact ⟨none, 0, rfl, .inl rfl, G3⟩
                    | exact ⟨none, ⟨0, rfl⟩, .inl rfl, G3⟩
                | false =>
                  by_cases hv : v = 1
                  · have hv' : ((v : Int) == 1) = true := by rw [hv]; rfl
                    obtain ⟨l, hl⟩ : ∃ l : Nat, (nW : Int) - 1 = (l : Int) := ⟨nW - 1, by have := HL1.out; omega⟩
                    have hl1 : (0 : Int) ≤ (l : Int) := by omega
                    have hl2 : (l : Int) < (nW : Int) := by omega
                    have hl3 : (l : Int) ≤ 1048577 := by have := HL1.out; omega
                    have c6 := HS6.out.wd l (by omega)
                    have HPV0 : Hid (pcV ws (v : Int) = gS ws l) := hid (by
                      unfold pcV
                      rw [if_pos (by omega), HNW.out, show nW - 1 = l by omega])
                    obtain ⟨z, hz⟩ : ∃ z, gS ws l = z := ⟨_, rfl⟩
                    rw [hz] at c6 HPV0
                    have HPV := HPV0
                    have o6 := HS6.out.c.c 6 _ rfl
                    have f6 := HS6.out.c.f
                    have HZ : Hid (PS w w2 (w6.setCell ⟨w2.heap.size + 1, 6, none⟩ (.string z)) gw nW ws [.string x0, .int .i64 q0, .int .i64 q1, .int .i64 q2, .int .i64 q3, .slice (some ⟨g5, 0, none⟩) pn c5, .string z] [q0, q1, q2, q3]) := hid (HS6.out.setC 6 (.string z) (by simp))
                    clear hz HPV0
                    cases hz : (z.toList == ([] : List UInt8)) with
                    | true =>
                      have HNO : Hid (R = none) := hid (by rw [← HPC.out, HEQ.out, if_neg (by rw [HOKT.out]; simp), if_neg (by rintro ⟨_, h⟩; rw [HPP.out, HHB.out] at h; cases h), if_pos ⟨by rw [hv]; rfl, by rw [HPV.out]; exact hz⟩])
                      have n0 := HZ.out.n.c 0 _ rfl
                      have r0 := HZ.out.r.c 0 _ rfl
                      have n1 := HZ.out.n.c 1 _ rfl
                      have r1 := HZ.out.r.c 1 _ rfl
                      have n2 := HZ.out.n.c 2 _ rfl
                      have r2 := HZ.out.r.c 2 _ rfl
                      have n3 := HZ.out.n.c 3 _ rfl
                      have r3 := HZ.out.r.c 3 _ rfl
                      have n4 := HZ.out.n.c 4 _ rfl
                      have r4 := HZ.out.r.c 4 _ rfl
                      have n5 := HZ.out.n.c 5 _ rfl
                      have r5 := HZ.out.r.c 5 _ rfl
                      have n6 := HZ.out.n.c 6 _ rfl
                      have r6 := HZ.out.r.c 6 _ rfl
                      have rf := HZ.out.r.f
                      have HX := hid ((((((((HZ.out.r.set 0 (.string ⟨#[]⟩) (by decide)).set 1 (.int .i64 0) (by decide)).set 2 (.int .i64 0) (by decide)).set 3 (.int .i64 0) (by decide)).set 4 (.int .i64 0) (by decide)).set 5 (.slice none 0 0) (by decide)).set 6 (.string ⟨#[]⟩) (by decide)))
                      go_wp2_with fail
                      have s0 := HX.out.c 0 _ rfl
                      have s1 := HX.out.c 1 _ rfl
                      have s2 := HX.out.c 2 _ rfl
                      have s3 := HX.out.c 3 _ rfl
                      have s4 := HX.out.c 4 _ rfl
                      have s5 := HX.out.c 5 _ rfl
                      have s6 := HX.out.c 6 _ rfl
                      refine bodyPost_ret (v := .tuple #[.agg #[.string ⟨#[]⟩, .int .i64 0, .int .i64 0, .int .i64 0, .int .i64 0, .slice none 0 0, .string ⟨#[]⟩], .bool false]) (by simp [results, Tryz.results4, go_sem, s0, s1, s2, s3, s4, s5, s6]) rfl ?_
                      rw [HNO.out]
                      have G3 := (((((((HZ.out.low.setCell (p := ⟨w.heap.size, 0, none⟩) (Nat.le_refl _) (.string ⟨#[]⟩)).setCell (p := ⟨w.heap.size, 1, none⟩) (Nat.le_refl _) (.int .i64 0)).setCell (p := ⟨w.heap.size, 2, none⟩) (Nat.le_refl _) (.int .i64 0)).setCell (p := ⟨w.heap.size, 3, none⟩) (Nat.le_refl _) (.int .i64 0)).setCell (p := ⟨w.heap.size, 4, none⟩) (Nat.le_refl _) (.int .i64 0)).setCell (p := ⟨w.heap.size, 5, none⟩) (Nat.le_refl _) (.slice none 0 0)).setCell (p := ⟨w.heap.size, 6, none⟩) (Nat.le_refl _) (.string ⟨#[]⟩))
                      first
                        | exact ⟨none, 0, rfl, .inl rfl, G3⟩
                        | exact ⟨none, ⟨0, rfl⟩, .inl rfl, G3⟩
                    | false =>
                      have HYES : Hid (R = some ⟨x0, q0, q1, q2, q3, pl, z⟩) := hid (by
                        rw [← HPC.out, HEQ.out, if_neg (by rw [HOKT.out]; simp), if_neg (by rintro ⟨_, h⟩; rw [HPP.out, HHB.out] at h; cases h), if_neg (by rintro ⟨_, h⟩; rw [HPV.out, hz] at h; cases h), HX0.out, HG.out, HPP.out, HPV.out]; rfl)
                      have n0 := HZ.out.c.c 0 _ rfl
                      have r0 := HZ.out.r.c 0 _ rfl
                      have n1 := HZ.out.c.c 1 _ rfl
                      have r1 := HZ.out.r.c 1 _ rfl
                      have n2 := HZ.out.c.c 2 _ rfl
                      have r2 := HZ.out.r.c 2 _ rfl
                      have n3 := HZ.out.c.c 3 _ rfl
                      have r3 := HZ.out.r.c 3 _ rfl
                      have n4 := HZ.out.c.c 4 _ rfl
                      have r4 := HZ.out.r.c 4 _ rfl
                      have n5 := HZ.out.c.c 5 _ rfl
                      have r5 := HZ.out.r.c 5 _ rfl
                      have n6 := HZ.out.c.c 6 _ rfl
                      have r6 := HZ.out.r.c 6 _ rfl
                      have rf := HZ.out.r.f
                      have HX := hid ((((((((HZ.out.r.set 0 (.string x0) (by simp [zC])).set 1 (.int .i64 q0) (by simp [zC])).set 2 (.int .i64 q1) (by simp [zC])).set 3 (.int .i64 q2) (by simp [zC])).set 4 (.int .i64 q3) (by simp [zC])).set 5 (.slice (some ⟨g5, 0, none⟩) pn c5) (by simp [zC])).set 6 (.string z) (by simp [zC])))
                      go_wp2_with fail
                      have s0 := HX.out.c 0 _ rfl
                      have s1 := HX.out.c 1 _ rfl
                      have s2 := HX.out.c 2 _ rfl
                      have s3 := HX.out.c 3 _ rfl
                      have s4 := HX.out.c 4 _ rfl
                      have s5 := HX.out.c 5 _ rfl
                      have s6 := HX.out.c 6 _ rfl
                      first
                        | refine bodyPost_ret (v := .tuple #[.agg #[.string x0, .int .i64 q0, .int .i64 q1, .int .i64 q2, .int .i64 q3, .slice (some ⟨g5, 0, none⟩) pn c5, .string z], .bool true]) (by simp [results, Tryz.results4, go_sem, s0, s1, s2, s3, s4, s5, s6]) rfl ?_
                        | fail "YES"
                      rw [HYES.out]
                      have GL := (((((((HZ.out.low.setCell (p := ⟨w.heap.size, 0, none⟩) (Nat.le_refl _) (.string x0)).setCell (p := ⟨w.heap.size, 1, none⟩) (Nat.le_refl _) (.int .i64 q0)).setCell (p := ⟨w.heap.size, 2, none⟩) (Nat.le_refl _) (.int .i64 q1)).setCell (p := ⟨w.heap.size, 3, none⟩) (Nat.le_refl _) (.int .i64 q2)).setCell (p := ⟨w.heap.size, 4, none⟩) (Nat.le_refl _) (.int .i64 q3)).setCell (p := ⟨w.heap.size, 5, none⟩) (Nat.le_refl _) (.slice (some ⟨g5, 0, none⟩) pn c5)).setCell (p := ⟨w.heap.size, 6, none⟩) (Nat.le_refl _) (.string z))
                      first
                        | exact ⟨(some ⟨g5, 0, none⟩), c5, by rw [← HPN.out]; rfl, ((((((((HSG6.out.setFar ⟨w2.heap.size + 1, 6, none⟩ (.string z) HFAR2.out).setFar ⟨w.heap.size, 0, none⟩ (.string x0) HFAR.out).setFar ⟨w.heap.size, 1, none⟩ (.int .i64 q0) HFAR.out).setFar ⟨w.heap.size, 2, none⟩ (.int .i64 q1) HFAR.out).setFar ⟨w.heap.size, 3, none⟩ (.int .i64 q2) HFAR.out).setFar ⟨w.heap.size, 4, none⟩ (.int .i64 q3) HFAR.out).setFar ⟨w.heap.size, 5, none⟩ (.slice (some ⟨g5, 0, none⟩) pn c5) HFAR.out).setFar ⟨w.heap.size, 6, none⟩ (.string z) HFAR.out), GL⟩
                        | exact ⟨(some ⟨g5, 0, none⟩), ⟨c5, by rw [← HPN.out]; rfl⟩, ((((((((HSG6.out.setFar ⟨w2.heap.size + 1, 6, none⟩ (.string z) HFAR2.out).setFar ⟨w.heap.size, 0, none⟩ (.string x0) HFAR.out).setFar ⟨w.heap.size, 1, none⟩ (.int .i64 q0) HFAR.out).setFar ⟨w.heap.size, 2, none⟩ (.int .i64 q1) HFAR.out).setFar ⟨w.heap.size, 3, none⟩ (.int .i64 q2) HFAR.out).setFar ⟨w.heap.size, 4, none⟩ (.int .i64 q3) HFAR.out).setFar ⟨w.heap.size, 5, none⟩ (.slice (some ⟨g5, 0, none⟩) pn c5) HFAR.out).setFar ⟨w.heap.size, 6, none⟩ (.string z) HFAR.out), GL⟩
                  · have hv' : ((v : Int) == 1) = false := by rw [beq_eq_false_iff_ne]; omega
                    have HPV : Hid (pcV ws (v : Int) = ⟨#[]⟩) := hid (by unfold pcV; rw [if_neg (by omega)])
                    have HYES : Hid (R = some ⟨x0, q0, q1, q2, q3, pl, ⟨#[]⟩⟩) := hid (by
                      rw [← HPC.out, HEQ.out, if_neg (by rw [HOKT.out]; simp), if_neg (by rintro ⟨_, h⟩; rw [HPP.out, HHB.out] at h; cases h), if_neg (by rintro ⟨h, _⟩; omega), HX0.out, HG.out, HPP.out, HPV.out]; rfl)
                    have n0 := HS6.out.c.c 0 _ rfl
                    have r0 := HS6.out.r.c 0 _ rfl
                    have n1 := HS6.out.c.c 1 _ rfl
                    have r1 := HS6.out.r.c 1 _ rfl
                    have n2 := HS6.out.c.c 2 _ rfl
                    have r2 := HS6.out.r.c 2 _ rfl
                    have n3 := HS6.out.c.c 3 _ rfl
                    have r3 := HS6.out.r.c 3 _ rfl
                    have n4 := HS6.out.c.c 4 _ rfl
                    have r4 := HS6.out.r.c 4 _ rfl
                    have n5 := HS6.out.c.c 5 _ rfl
                    have r5 := HS6.out.r.c 5 _ rfl
                    have n6 := HS6.out.c.c 6 _ rfl
                    have r6 := HS6.out.r.c 6 _ rfl
                    have rf := HS6.out.r.f
                    have HX := hid ((((((((HS6.out.r.set 0 (.string x0) (by simp [zC])).set 1 (.int .i64 q0) (by simp [zC])).set 2 (.int .i64 q1) (by simp [zC])).set 3 (.int .i64 q2) (by simp [zC])).set 4 (.int .i64 q3) (by simp [zC])).set 5 (.slice (some ⟨g5, 0, none⟩) pn c5) (by simp [zC])).set 6 (.string ⟨#[]⟩) (by simp [zC])))
                    go_wp2_with fail
                    have s0 := HX.out.c 0 _ rfl
                    have s1 := HX.out.c 1 _ rfl
                    have s2 := HX.out.c 2 _ rfl
                    have s3 := HX.out.c 3 _ rfl
                    have s4 := HX.out.c 4 _ rfl
                    have s5 := HX.out.c 5 _ rfl
                    have s6 := HX.out.c 6 _ rfl
                    first
                      | refine bodyPost_ret (v := .tuple #[.agg #[.string x0, .int .i64 q0, .int .i64 q1, .int .i64 q2, .int .i64 q3, .slice (some ⟨g5, 0, none⟩) pn c5, .string ⟨#[]⟩], .bool true]) (by simp [results, Tryz.results4, go_sem, s0, s1, s2, s3, s4, s5, s6]) rfl ?_
                      | fail "YES"
                    rw [HYES.out]
                    have GL := (((((((HS6.out.low.setCell (p := ⟨w.heap.size, 0, none⟩) (Nat.le_refl _) (.string x0)).setCell (p := ⟨w.heap.size, 1, none⟩) (Nat.le_refl _) (.int .i64 q0)).setCell (p := ⟨w.heap.size, 2, none⟩) (Nat.le_refl _) (.int .i64 q1)).setCell (p := ⟨w.heap.size, 3, none⟩) (Nat.le_refl _) (.int .i64 q2)).setCell (p := ⟨w.heap.size, 4, none⟩) (Nat.le_refl _) (.int .i64 q3)).setCell (p := ⟨w.heap.size, 5, none⟩) (Nat.le_refl _) (.slice (some ⟨g5, 0, none⟩) pn c5)).setCell (p := ⟨w.heap.size, 6, none⟩) (Nat.le_refl _) (.string ⟨#[]⟩))
                    first
                      | exact ⟨(some ⟨g5, 0, none⟩), c5, by rw [← HPN.out]; rfl, (((((((HSG6.out.setFar ⟨w.heap.size, 0, none⟩ (.string x0) HFAR.out).setFar ⟨w.heap.size, 1, none⟩ (.int .i64 q0) HFAR.out).setFar ⟨w.heap.size, 2, none⟩ (.int .i64 q1) HFAR.out).setFar ⟨w.heap.size, 3, none⟩ (.int .i64 q2) HFAR.out).setFar ⟨w.heap.size, 4, none⟩ (.int .i64 q3) HFAR.out).setFar ⟨w.heap.size, 5, none⟩ (.slice (some ⟨g5, 0, none⟩) pn c5) HFAR.out).setFar ⟨w.heap.size, 6, none⟩ (.string ⟨#[]⟩) HFAR.out), GL⟩
                      | exact ⟨(some ⟨g5, 0, none⟩), ⟨c5, by rw [← HPN.out]; rfl⟩, (((((((HSG6.out.setFar ⟨w.heap.size, 0, none⟩ (.string x0) HFAR.out).setFar ⟨w.heap.size, 1, none⟩ (.int .i64 q0) HFAR.out).setFar ⟨w.heap.size, 2, none⟩ (.int .i64 q1) HFAR.out).setFar ⟨w.heap.size, 3, none⟩ (.int .i64 q2) HFAR.out).setFar ⟨w.heap.size, 4, none⟩ (.int .i64 q3) HFAR.out).setFar ⟨w.heap.size, 5, none⟩ (.slice (some ⟨g5, 0, none⟩) pn c5) HFAR.out).setFar ⟨w.heap.size, 6, none⟩ (.string ⟨#[]⟩) HFAR.out), GL⟩
              · have hp' : ((p : Int) == 1) = false := by rw [beq_eq_false_iff_ne]; omega
                have HPP : Hid (pcP ws r ((p : Nat) : Int) = []) := hid (by unfold pcP; rw [if_neg (by omega)])
                have hw4 := HW4.out
                by_cases hv : v = 1
                · have hv' : ((v : Int) == 1) = true := by rw [hv]; rfl
                  obtain ⟨l, hl⟩ : ∃ l : Nat, (nW : Int) - 1 = (l : Int) := ⟨nW - 1, by have := HL1.out; omega⟩
                  have hl1 : (0 : Int) ≤ (l : Int) := by omega
                  have hl2 : (l : Int) < (nW : Int) := by omega
                  have hl3 : (l : Int) ≤ 1048577 := by have := HL1.out; omega
                  have c6 := HS4.out.wd l (by omega)
                  have HPV0 : Hid (pcV ws (v : Int) = gS ws l) := hid (by
                    unfold pcV
                    rw [if_pos (by omega), HNW.out, show nW - 1 = l by omega])
                  obtain ⟨z, hz⟩ : ∃ z, gS ws l = z := ⟨_, rfl⟩
                  rw [hz] at c6 HPV0
                  have HPV := HPV0
                  have o6 := HS4.out.c.c 6 _ rfl
                  have f6 := HS4.out.c.f
                  have HZ : Hid (PS w w2 (w4.setCell ⟨w2.heap.size + 1, 6, none⟩ (.string z)) gw nW ws [.string x0, .int .i64 q0, .int .i64 q1, .int .i64 q2, .int .i64 q3, .slice (some ⟨w2.heap.size, 0, none⟩) 0 0, .string z] [q0, q1, q2, q3]) := hid (HS4.out.setC 6 (.string z) (by simp))
                  clear hz HPV0
                  cases hz : (z.toList == ([] : List UInt8)) with
                  | true =>
                    have HNO : Hid (R = none) := hid (by rw [← HPC.out, HEQ.out, if_neg (by rw [HOKT.out]; simp), if_neg (by rintro ⟨h, _⟩; omega), if_pos ⟨by rw [hv]; rfl, by rw [HPV.out]; exact hz⟩])
                    have n0 := HZ.out.n.c 0 _ rfl
                    have r0 := HZ.out.r.c 0 _ rfl
                    have n1 := HZ.out.n.c 1 _ rfl
                    have r1 := HZ.out.r.c 1 _ rfl
                    have n2 := HZ.out.n.c 2 _ rfl
                    have r2 := HZ.out.r.c 2 _ rfl
                    have n3 := HZ.out.n.c 3 _ rfl
                    have r3 := HZ.out.r.c 3 _ rfl
                    have n4 := HZ.out.n.c 4 _ rfl
                    have r4 := HZ.out.r.c 4 _ rfl
                    have n5 := HZ.out.n.c 5 _ rfl
                    have r5 := HZ.out.r.c 5 _ rfl
                    have n6 := HZ.out.n.c 6 _ rfl
                    have r6 := HZ.out.r.c 6 _ rfl
                    have rf := HZ.out.r.f
                    have HX := hid ((((((((HZ.out.r.set 0 (.string ⟨#[]⟩) (by decide)).set 1 (.int .i64 0) (by decide)).set 2 (.int .i64 0) (by decide)).set 3 (.int .i64 0) (by decide)).set 4 (.int .i64 0) (by decide)).set 5 (.slice none 0 0) (by decide)).set 6 (.string ⟨#[]⟩) (by decide)))
                    go_wp2_with fail
                    have s0 := HX.out.c 0 _ rfl
                    have s1 := HX.out.c 1 _ rfl
                    have s2 := HX.out.c 2 _ rfl
                    have s3 := HX.out.c 3 _ rfl
                    have s4 := HX.out.c 4 _ rfl
                    have s5 := HX.out.c 5 _ rfl
                    have s6 := HX.out.c 6 _ rfl
                    refine bodyPost_ret (v := .tuple #[.agg #[.string ⟨#[]⟩, .int .i64 0, .int .i64 0, .int .i64 0, .int .i64 0, .slice none 0 0, .string ⟨#[]⟩], .bool false]) (by simp [results, Tryz.results4, go_sem, s0, s1, s2, s3, s4, s5, s6]) rfl ?_
                    rw [HNO.out]
                    have G3 := (((((((HZ.out.low.setCell (p := ⟨w.heap.size, 0, none⟩) (Nat.le_refl _) (.string ⟨#[]⟩)).setCell (p := ⟨w.heap.size, 1, none⟩) (Nat.le_refl _) (.int .i64 0)).setCell (p := ⟨w.heap.size, 2, none⟩) (Nat.le_refl _) (.int .i64 0)).setCell (p := ⟨w.heap.size, 3, none⟩) (Nat.le_refl _) (.int .i64 0)).setCell (p := ⟨w.heap.size, 4, none⟩) (Nat.le_refl _) (.int .i64 0)).setCell (p := ⟨w.heap.size, 5, none⟩) (Nat.le_refl _) (.slice none 0 0)).setCell (p := ⟨w.heap.size, 6, none⟩) (Nat.le_refl _) (.string ⟨#[]⟩))
                    first
                      | exact ⟨none, 0, rfl, .inl rfl, G3⟩
                      | exact ⟨none, ⟨0, rfl⟩, .inl rfl, G3⟩
                  | false =>
                    have HYES : Hid (R = some ⟨x0, q0, q1, q2, q3, [], z⟩) := hid (by
                      rw [← HPC.out, HEQ.out, if_neg (by rw [HOKT.out]; simp), if_neg (by rintro ⟨h, _⟩; omega), if_neg (by rintro ⟨_, h⟩; rw [HPV.out, hz] at h; cases h), HX0.out, HG.out, HPP.out, HPV.out]; rfl)
                    have n0 := HZ.out.c.c 0 _ rfl
                    have r0 := HZ.out.r.c 0 _ rfl
                    have n1 := HZ.out.c.c 1 _ rfl
                    have r1 := HZ.out.r.c 1 _ rfl
                    have n2 := HZ.out.c.c 2 _ rfl
                    have r2 := HZ.out.r.c 2 _ rfl
                    have n3 := HZ.out.c.c 3 _ rfl
                    have r3 := HZ.out.r.c 3 _ rfl
                    have n4 := HZ.out.c.c 4 _ rfl
                    have r4 := HZ.out.r.c 4 _ rfl
                    have n5 := HZ.out.c.c 5 _ rfl
                    have r5 := HZ.out.r.c 5 _ rfl
                    have n6 := HZ.out.c.c 6 _ rfl
                    have r6 := HZ.out.r.c 6 _ rfl
                    have rf := HZ.out.r.f
                    have HX := hid ((((((((HZ.out.r.set 0 (.string x0) (by simp [zC])).set 1 (.int .i64 q0) (by simp [zC])).set 2 (.int .i64 q1) (by simp [zC])).set 3 (.int .i64 q2) (by simp [zC])).set 4 (.int .i64 q3) (by simp [zC])).set 5 (.slice (some ⟨w2.heap.size, 0, none⟩) 0 0) (by simp [zC])).set 6 (.string z) (by simp [zC])))
                    go_wp2_with fail
                    have s0 := HX.out.c 0 _ rfl
                    have s1 := HX.out.c 1 _ rfl
                    have s2 := HX.out.c 2 _ rfl
                    have s3 := HX.out.c 3 _ rfl
                    have s4 := HX.out.c 4 _ rfl
                    have s5 := HX.out.c 5 _ rfl
                    have s6 := HX.out.c 6 _ rfl
                    first
                      | refine bodyPost_ret (v := .tuple #[.agg #[.string x0, .int .i64 q0, .int .i64 q1, .int .i64 q2, .int .i64 q3, .slice (some ⟨w2.heap.size, 0, none⟩) 0 0, .string z], .bool true]) (by simp [results, Tryz.results4, go_sem, s0, s1, s2, s3, s4, s5, s6]) rfl ?_
                      | fail "YES"
                    rw [HYES.out]
                    have GL := (((((((HZ.out.low.setCell (p := ⟨w.heap.size, 0, none⟩) (Nat.le_refl _) (.string x0)).setCell (p := ⟨w.heap.size, 1, none⟩) (Nat.le_refl _) (.int .i64 q0)).setCell (p := ⟨w.heap.size, 2, none⟩) (Nat.le_refl _) (.int .i64 q1)).setCell (p := ⟨w.heap.size, 3, none⟩) (Nat.le_refl _) (.int .i64 q2)).setCell (p := ⟨w.heap.size, 4, none⟩) (Nat.le_refl _) (.int .i64 q3)).setCell (p := ⟨w.heap.size, 5, none⟩) (Nat.le_refl _) (.slice (some ⟨w2.heap.size, 0, none⟩) 0 0)).setCell (p := ⟨w.heap.size, 6, none⟩) (Nat.le_refl _) (.string z))
                    first
                      | exact ⟨(some ⟨w2.heap.size, 0, none⟩), 0, rfl, .inl rfl, GL⟩
                      | exact ⟨(some ⟨w2.heap.size, 0, none⟩), ⟨0, rfl⟩, .inl rfl, GL⟩
                · have hv' : ((v : Int) == 1) = false := by rw [beq_eq_false_iff_ne]; omega
                  have HPV : Hid (pcV ws (v : Int) = ⟨#[]⟩) := hid (by unfold pcV; rw [if_neg (by omega)])
                  have HYES : Hid (R = some ⟨x0, q0, q1, q2, q3, [], ⟨#[]⟩⟩) := hid (by
                    rw [← HPC.out, HEQ.out, if_neg (by rw [HOKT.out]; simp), if_neg (by rintro ⟨h, _⟩; omega), if_neg (by rintro ⟨h, _⟩; omega), HX0.out, HG.out, HPP.out, HPV.out]; rfl)
                  have n0 := HS4.out.c.c 0 _ rfl
                  have r0 := HS4.out.r.c 0 _ rfl
                  have n1 := HS4.out.c.c 1 _ rfl
                  have r1 := HS4.out.r.c 1 _ rfl
                  have n2 := HS4.out.c.c 2 _ rfl
                  have r2 := HS4.out.r.c 2 _ rfl
                  have n3 := HS4.out.c.c 3 _ rfl
                  have r3 := HS4.out.r.c 3 _ rfl
                  have n4 := HS4.out.c.c 4 _ rfl
                  have r4 := HS4.out.r.c 4 _ rfl
                  have n5 := HS4.out.c.c 5 _ rfl
                  have r5 := HS4.out.r.c 5 _ rfl
                  have n6 := HS4.out.c.c 6 _ rfl
                  have r6 := HS4.out.r.c 6 _ rfl
                  have rf := HS4.out.r.f
                  have HX := hid ((((((((HS4.out.r.set 0 (.string x0) (by simp [zC])).set 1 (.int .i64 q0) (by simp [zC])).set 2 (.int .i64 q1) (by simp [zC])).set 3 (.int .i64 q2) (by simp [zC])).set 4 (.int .i64 q3) (by simp [zC])).set 5 (.slice (some ⟨w2.heap.size, 0, none⟩) 0 0) (by simp [zC])).set 6 (.string ⟨#[]⟩) (by simp [zC])))
                  go_wp2_with fail
                  have s0 := HX.out.c 0 _ rfl
                  have s1 := HX.out.c 1 _ rfl
                  have s2 := HX.out.c 2 _ rfl
                  have s3 := HX.out.c 3 _ rfl
                  have s4 := HX.out.c 4 _ rfl
                  have s5 := HX.out.c 5 _ rfl
                  have s6 := HX.out.c 6 _ rfl
                  first
                    | refine bodyPost_ret (v := .tuple #[.agg #[.string x0, .int .i64 q0, .int .i64 q1, .int .i64 q2, .int .i64 q3, .slice (some ⟨w2.heap.size, 0, none⟩) 0 0, .string ⟨#[]⟩], .bool true]) (by simp [results, Tryz.results4, go_sem, s0, s1, s2, s3, s4, s5, s6]) rfl ?_
                    | fail "YES"
                  rw [HYES.out]
                  have GL := (((((((HS4.out.low.setCell (p := ⟨w.heap.size, 0, none⟩) (Nat.le_refl _) (.string x0)).setCell (p := ⟨w.heap.size, 1, none⟩) (Nat.le_refl _) (.int .i64 q0)).setCell (p := ⟨w.heap.size, 2, none⟩) (Nat.le_refl _) (.int .i64 q1)).setCell (p := ⟨w.heap.size, 3, none⟩) (Nat.le_refl _) (.int .i64 q2)).setCell (p := ⟨w.heap.size, 4, none⟩) (Nat.le_refl _) (.int .i64 q3)).setCell (p := ⟨w.heap.size, 5, none⟩) (Nat.le_refl _) (.slice (some ⟨w2.heap.size, 0, none⟩) 0 0)).setCell (p := ⟨w.heap.size, 6, none⟩) (Nat.le_refl _) (.string ⟨#[]⟩))
                  first
                    | exact ⟨(some ⟨w2.heap.size, 0, none⟩), 0, rfl, .inl rfl, GL⟩
                    | exact ⟨(some ⟨w2.heap.size, 0, none⟩), ⟨0, rfl⟩, .inl rfl, GL⟩
end Go.Proofs.YtemfhnnkkmiamaaGreatDoor
