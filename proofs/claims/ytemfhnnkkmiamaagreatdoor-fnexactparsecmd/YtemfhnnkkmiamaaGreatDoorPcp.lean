import Derived.Test.YtemfhnnkkmiamaaGreatDoorPco
namespace Go.Proofs.YtemfhnnkkmiamaaGreatDoor
open Go.ChangeShapes Go.WideShapes Go.ChangeAt Go.RowKit
set_option linter.unusedVariables false
set_option linter.unusedSimpArgs false

def cmA (c : Cm) (pv : Value) : Value := .agg (cmV c pv).toArray

def RfP (w : World) (R : Option Cm) (e : Ending) (w' : World) : Prop := ∃ pv, e = .returned (.tuple #[cmA (R.getD Cm.no) pv, .bool R.isSome]) ∧ Below w.heap.size w w' ∧ PV w' w.heap.size pv (R.getD Cm.no).p
theorem RfP.none {w w' : World} (h : Below w.heap.size w w') : RfP w none (.returned (.tuple #[cmA Cm.no (.slice none 0 0), .bool false])) w' := ⟨_, rfl, h, .inl ⟨rfl, rfl⟩⟩
theorem fm_step {c : Cm} {fs : List Nat} {xs : List ByteArray} {k f : Nat} {x : ByteArray} (hf : fs[k]? = some f) (hx : xs[k]? = some x) : fmR c (fs.drop k) (xs.drop k) = (wdR c f x).bind fun c => fmR c (fs.drop (k + 1)) (xs.drop (k + 1)) := by
  rw [List.drop_eq_getElem_cons (List.getElem?_eq_some_iff.1 hf).1, List.drop_eq_getElem_cons (List.getElem?_eq_some_iff.1 hx).1]
  rw [(List.getElem?_eq_some_iff.1 hf).2, (List.getElem?_eq_some_iff.1 hx).2]
  rfl
theorem fm_end {c : Cm} {fs : List Nat} {xs : List ByteArray} {k : Nat} (hf : fs.length = k) (hx : xs.length = k) : fmR c (fs.drop k) (xs.drop k) = some c := by
  rw [List.drop_eq_nil_of_le (by omega), List.drop_eq_nil_of_le (by omega)]
  rfl
theorem CX.made (w : World) (x : ByteArray) : CX (w.alloc (.cells #[.string x, .int .i64 0, .int .i64 0, .int .i64 0, .int .i64 0, .slice none 0 0, .string ByteArray.empty] 24)) w.heap.size (w.heap.size + 1) { Cm.no with w := x } (.slice none 0 0) :=
  ⟨BxL.made w (cmV { Cm.no with w := x } (.slice none 0 0)) 24, .inl ⟨rfl, rfl⟩, Nat.lt_succ_self _, by simp⟩
theorem gS_tail {W : List ByteArray} {k : Nat} (h : k + 1 < W.length) : W.tail[k]? = some (gS W (1 + k)) := by
  cases W with
  | nil => simp at h
  | cons x xs =>
    have h' : k < xs.length := by simpa using h
    show xs[k]? = some (gS (x :: xs) (1 + k))
    rw [Nat.add_comm 1 k]
    simp [gS, List.getD, h']

def set7 (w : World) (b : Nat) (v0 v1 v2 v3 v4 v5 v6 : Value) : World := ((((((w.setCell ⟨b, 0, none⟩ v0).setCell ⟨b, 1, none⟩ v1).setCell ⟨b, 2, none⟩ v2).setCell ⟨b, 3, none⟩ v3).setCell ⟨b, 4, none⟩ v4).setCell ⟨b, 5, none⟩ v5).setCell ⟨b, 6, none⟩ v6
theorem set7_box {w : World} {b : Nat} {u0 u1 u2 u3 u4 u5 u6 : Value} (h : BxL w b [u0, u1, u2, u3, u4, u5, u6]) (v0 v1 v2 v3 v4 v5 v6 : Value) : BxL (set7 w b v0 v1 v2 v3 v4 v5 v6) b [v0, v1, v2, v3, v4, v5, v6] :=
  ((((((h.set 0 v0 (show 0 < 7 by decide)).set 1 v1 (show 1 < 7 by decide)).set 2 v2 (show 2 < 7 by decide)).set 3 v3 (show 3 < 7 by decide)).set 4 v4 (show 4 < 7 by decide)).set 5 v5 (show 5 < 7 by decide)).set 6 v6 (show 6 < 7 by decide)
theorem below_set {B : Nat} {w w' : World} (h : Below B w w') (q : Addr) (u : Value) (hq : B ≤ q.block) : Below B w (w'.setCell q u) :=
  ⟨h.os, h.tape, h.output, by simpa [World.setCell] using h.size, fun g hg => (Below.heap_setCell _ _ _ _ (by omega)).trans (h.block g hg)⟩
theorem set7_below {B : Nat} {w w' : World} {b : Nat} (h : Below B w w') (hb : B ≤ b) (v0 v1 v2 v3 v4 v5 v6 : Value) : Below B w (set7 w' b v0 v1 v2 v3 v4 v5 v6) :=
  below_set (below_set (below_set (below_set (below_set (below_set (below_set h _ _ hb) _ _ hb) _ _ hb) _ _ hb) _ _ hb) _ _ hb) _ _ hb
theorem PV.set7 {w : World} {B b : Nat} {pv : Value} {p : List ByteArray} (h : PV w B pv p) (hb : b < B) (v0 v1 v2 v3 v4 v5 v6 : Value) : PV (set7 w b v0 v1 v2 v3 v4 v5 v6) B pv p :=
  ((((((h.set _ _ hb).set _ _ hb).set _ _ hb).set _ _ hb).set _ _ hb).set _ _ hb).set _ _ hb
theorem BxL.grown {w w' : World} {b m : Nat} {vs : List Value} (h : BxL w b vs) (g : w.grownBy w' (some m)) (hm : b ≠ m) : BxL w' b vs := by
  have e := g.block b h.lt (fun e => hm (by injection e with e; try exact e.symm))
  exact ⟨fun i v hv => (World.cell?_of_block (a := ⟨b, i, none⟩) e).trans (h.c i v hv), fun i => (World.frozen?_of_block (a := ⟨b, i, none⟩) e).trans (h.f i), Nat.lt_of_lt_of_le h.lt g.size⟩

structure RfI (w wr : World) (rb cb : Nat) (c : Cm) (pv : Value) : Prop where
  low : Below w.heap.size w wr
  res : BxL wr rb (cmV Cm.no (.slice none 0 0))
  cur : CX wr cb (cb + 1) c pv
  lo : w.heap.size ≤ rb
  lt : rb < cb
theorem RfI.step {w wr w1 : World} {rb cb : Nat} {c c' : Cm} {pv pv' : Value} (h : RfI w wr rb cb c pv) (g : wr.grownBy w1 (some cb)) (hc : CX w1 cb (cb + 1) c' pv') : RfI w w1 rb cb c' pv' :=
  ⟨h.low.grown g h.low.size (fun k e => by injection e with e; have := h.lo; have := h.lt; omega), h.res.grown g (Nat.ne_of_lt h.lt), hc, h.lo, h.lt⟩
set_option maxRecDepth 100000 in
set_option maxHeartbeats 4000000 in
theorem readFormC (gw wc : Nat) (W : List ByteArray) (gf fc : Nat) (fs : List Nat) (m : Int) (w : World) (hW : W.length ≤ 1048577) (hW0 : 1 ≤ W.length) (hf4 : fs.length ≤ 4) (hx : ∀ i, (gS W i).size ≤ 1048576) (hm : w.cell? ⟨0, 0, none⟩ = some (.int .i64 m)) (hf5 : ∀ f ∈ fs, f ≤ 5)
    (hw : ∀ i, i < W.length → w.cell? ⟨gw, i, none⟩ = some (.string (gS W i))) (hfs : ∀ (i x : Nat), fs[i]? = some x → w.cell? ⟨gf, i, none⟩ = some (.int .i64 (x : Int))) :
    Calls Tryz.prog 15 #[.slice (some ⟨gw, 0, none⟩) W.length wc, .slice (some ⟨gf, 0, none⟩) fs.length fc] w fun e w' => RfP w (fmR { Cm.no with w := gS W 0 } fs W.tail) e w' := by
  obtain ⟨R, hR⟩ : ∃ R, fmR { Cm.no with w := gS W 0 } fs W.tail = R := ⟨_, rfl⟩
  rw [hR]
  have HR := hid hR
  clear hR
  have HFS := hid hfs
  have HWS := hid hw
  have HM := hid hm
  have HX := hid hx
  have HF5 := hid hf5
  clear hfs hw hm hx hf5
  obtain ⟨W1, hW1⟩ : ∃ W1, w.alloc (.cells #[.string ⟨#[]⟩, .int .i64 0, .int .i64 0, .int .i64 0, .int .i64 0, .slice none 0 0, .string ⟨#[]⟩] 24) = W1 := ⟨_, rfl⟩
  have b1 : Below w.heap.size w W1 := by rw [← hW1]; exact (Below.refl _ _).alloc (Nat.le_refl _) _
  have z1 : w.heap.size < W1.heap.size := by rw [← hW1]; simp
  have X1 : BxL W1 w.heap.size (cmV Cm.no (.slice none 0 0)) := by rw [← hW1]; exact (CX.made w ⟨#[]⟩).box
  have k0 := X1.c 0 _ rfl
  have k1 := X1.c 1 _ rfl
  have k2 := X1.c 2 _ rfl
  have k3 := X1.c 3 _ rfl
  have k4 := X1.c 4 _ rfl
  have k5 := X1.c 5 _ rfl
  have k6 := X1.c 6 _ rfl
  have fz := X1.f
  have HX1 := hid X1
  have HB1 := hid b1
  have HZ1 := hid z1
  clear X1 b1 z1
  by_cases hl : W.length = 1 + fs.length
  · have hl' : (W.length : Int) = 1 + (fs.length : Int) := by omega
    have l0 : (0 : Int) < (W.length : Int) := by omega
    obtain ⟨x0, hx0⟩ : ∃ x0, gS W 0 = x0 := ⟨_, rfl⟩
    rw [hx0] at HR
    have w0 := (Cst.below HB1.out) _ _ _ (HWS.out 0 (by omega))
    rw [hx0] at w0
    have HL := hid hl
    obtain ⟨W2, hW2⟩ : ∃ W2, W1.alloc (.cells #[.string x0, .int .i64 0, .int .i64 0, .int .i64 0, .int .i64 0, .slice none 0 0, .string ⟨#[]⟩] 24) = W2 := ⟨_, rfl⟩
    have HI : Hid (RfI w W2 w.heap.size W1.heap.size { Cm.no with w := x0 } (.slice none 0 0)) := hid (by
      rw [← hW2]
      have b2 := (Below.refl W1.heap.size W1).alloc (Nat.le_refl _) (.cells #[.string x0, .int .i64 0, .int .i64 0, .int .i64 0, .int .i64 0, .slice none 0 0, .string ⟨#[]⟩] 24)
      exact ⟨keepS HB1.out b2, HX1.out.below b2, CX.made W1 x0, Nat.le_refl _, HZ1.out⟩)
    have HW2 := hid hW2
    clear hx0 hl hW2
    go_enter Tryz.func15, Tryz.ntmps15
    go_wp2_with fail
    rw [HW2.out]
    clear HW2
    clear hW1 k0 k1 k2 k3 k4 k5 k6 fz w0
    obtain ⟨cb, hcb⟩ : ∃ cb, W1.heap.size = cb := ⟨_, rfl⟩
    rw [hcb] at HI ⊢
    clear hcb
    go_loopw [22] (fun i wr => ∃ (k : Nat) (c : Cm) (pv : Value), k ≤ fs.length ∧ i = .int .i64 k ∧ Hid (RfI w wr w.heap.size cb c pv) ∧ Hid (fmR c (fs.drop k) (W.tail.drop k) = R)) (fun i _ => fs.length - (intOf i).toNat)
    case atStart => exact ⟨0, _, _, Nat.zero_le _, rfl, HI, by simpa using HR⟩
    case round =>
      obtain ⟨k, c, pv, hk, rfl, HJ, HRk⟩ := hrel
      have HX0 := HJ.out.cur
      obtain ⟨pa, pc, hpf, _⟩ := HX0.pth.form
      subst hpf
      by_cases hlt : k < fs.length
      · have i1 : (0 : Int) ≤ (k : Int) := Int.natCast_nonneg _
        have i2 : (k : Int) < (fs.length : Int) := by omega
        have i3 : (1 : Int) + (k : Int) < (W.length : Int) := by omega
        have hwl := HL.out
        obtain ⟨f, hf⟩ : ∃ f, fs[k]? = some f := ⟨_, List.getElem?_eq_getElem hlt⟩
        have hg := gS_tail (W := W) (k := k) (by omega)
        have st := Cst.below HJ.out.low
        have c0 := st _ _ _ (HFS.out k f hf)
        have c1 := st _ _ _ (HWS.out (1 + k) (by omega))
        obtain ⟨x, hxx⟩ : ∃ x, gS W (1 + k) = x := ⟨_, rfl⟩
        have hsx := HX.out (1 + k)
        rw [hxx] at c1 hg hsx
        have HST := hid (fm_step (c := c) hf hg)
        rw [HRk.out] at HST
        have HC := hid (readWordC cb (cb + 1) f c _ x m wr (HF5.out f (List.mem_of_getElem? hf)) hsx (st _ _ _ HM.out) HX0)
        have HRES := HJ.out.res
        have k0 := HRES.c 0 _ rfl
        clear hg hxx hf st hwl HX0 HRES k0
        go_wp2_with fail
        refine HC.out.mono ?_
        rintro e w1 ⟨rfl, hg1, hcx⟩
        obtain ⟨O, hO⟩ : ∃ O, wdR c f x = O := ⟨_, rfl⟩
        rw [hO] at HST hcx ⊢
        clear hO HC
        cases O with
        | none =>
          have HE : Hid (R = none) := hid HST.out
          have HR1 := HJ.out.res.grown hg1 (Nat.ne_of_lt HJ.out.lt)
          have HB2 := HJ.out.low.grown hg1 HJ.out.low.size (fun k e => by injection e with e; have := HJ.out.lo; have := HJ.out.lt; omega)
          have HRB := hid HR1
          have HBB := hid HB2
          obtain ⟨W9, hW9⟩ : ∃ W9, set7 w1 w.heap.size (.string ⟨#[]⟩) (.int .i64 0) (.int .i64 0) (.int .i64 0) (.int .i64 0) (.slice none 0 0) (.string ⟨#[]⟩) = W9 := ⟨_, rfl⟩
          have X9 : BxL W9 w.heap.size (cmV Cm.no (.slice none 0 0)) := by rw [← hW9]; exact set7_box HR1 _ _ _ _ _ _ _
          have HB9 : Hid (Below w.heap.size w W9) := hid (by rw [← hW9]; exact set7_below HB2 (Nat.le_refl _) _ _ _ _ _ _ _)
          have k0 := HR1.c 0 _ rfl
          have k1 := HR1.c 1 _ rfl
          have k2 := HR1.c 2 _ rfl
          have k3 := HR1.c 3 _ rfl
          have k4 := HR1.c 4 _ rfl
          have k5 := HR1.c 5 _ rfl
          have k6 := HR1.c 6 _ rfl
          have fz := HR1.f
          have q0 := X9.c 0 _ rfl
          have q1 := X9.c 1 _ rfl
          have q2 := X9.c 2 _ rfl
          have q3 := X9.c 3 _ rfl
          have q4 := X9.c 4 _ rfl
          have q5 := X9.c 5 _ rfl
          have q6 := X9.c 6 _ rfl
          unfold set7 at hW9
          clear X9 HR1 HB2 hg1 hcx HST
          go_wp2_with fail
          refine bodyPost_ret (v := .tuple #[cmA Cm.no (.slice none 0 0), .bool false]) (by simp [results, Tryz.results15, go_sem, q0, q1, q2, q3, q4, q5, q6]; rfl) rfl ?_
          rw [HE.out]
          exact RfP.none HB9.out
        | some c' =>
          obtain ⟨pv', hcx'⟩ := hcx c' rfl
          have HJ2 := hid (HJ.out.step hg1 hcx')
          have HR2 : Hid (fmR c' (fs.drop (k + 1)) (W.tail.drop (k + 1)) = R) := hid HST.out.symm
          clear hg1 hcx hcx' HST
          go_wp2_with fail
          go_roundw
          case rel => exact ⟨k + 1, _, _, hlt, by go_num, HJ2, HR2⟩
          case measure => simp [intOf]; omega
      · obtain rfl : k = fs.length := by omega
        have HE : Hid (R = some c) := hid (by rw [← HRk.out]; exact fm_end rfl (by rw [List.length_tail]; have := HL.out; omega))
        have HR1 := HJ.out.res
        obtain ⟨W9, hW9⟩ : ∃ W9, set7 wr w.heap.size (.string c.w) (.int .i64 c.a) (.int .i64 c.b) (.int .i64 c.n) (.int .i64 c.x) (.slice pa c.p.length pc) (.string c.v) = W9 := ⟨_, rfl⟩
        have X9 : BxL W9 w.heap.size (cmV c (.slice pa c.p.length pc)) := by rw [← hW9]; exact set7_box HR1 _ _ _ _ _ _ _
        have HB9 : Hid (Below w.heap.size w W9) := hid (by rw [← hW9]; exact set7_below HJ.out.low (Nat.le_refl _) _ _ _ _ _ _ _)
        have HP9 : Hid (PV W9 w.heap.size (.slice pa c.p.length pc) c.p) := hid (by
          rw [← hW9]
          exact (HX0.pth.set7 (Nat.lt_succ_of_lt HJ.out.lt) _ _ _ _ _ _ _).wide (by have := HJ.out.lt; omega))
        have k0 := HR1.c 0 _ rfl
        have k1 := HR1.c 1 _ rfl
        have k2 := HR1.c 2 _ rfl
        have k3 := HR1.c 3 _ rfl
        have k4 := HR1.c 4 _ rfl
        have k5 := HR1.c 5 _ rfl
        have k6 := HR1.c 6 _ rfl
        have fz := HR1.f
        have j0 := HX0.box.c 0 _ rfl
        have j1 := HX0.box.c 1 _ rfl
        have j2 := HX0.box.c 2 _ rfl
        have j3 := HX0.box.c 3 _ rfl
        have j4 := HX0.box.c 4 _ rfl
        have j5 := HX0.box.c 5 _ rfl
        have j6 := HX0.box.c 6 _ rfl
        have q0 := X9.c 0 _ rfl
        have q1 := X9.c 1 _ rfl
        have q2 := X9.c 2 _ rfl
        have q3 := X9.c 3 _ rfl
        have q4 := X9.c 4 _ rfl
        have q5 := X9.c 5 _ rfl
        have q6 := X9.c 6 _ rfl
        unfold set7 at hW9
        clear X9 HR1 HX0
        go_wp2_with fail
        refine bodyPost_ret (v := .tuple #[cmA c (.slice pa c.p.length pc), .bool true]) (by simp [results, Tryz.results15, go_sem, q0, q1, q2, q3, q4, q5, q6]; rfl) rfl ?_
        rw [HE.out]
        exact ⟨_, rfl, HB9.out, HP9.out⟩
  · have hne : W.tail.length ≠ fs.length := by rw [List.length_tail]; omega
    have HE : Hid (R = none) := hid (by rw [← HR.out]; exact fmR_len _ _ _ hne)
    clear hne
    have hl' : ¬ (W.length : Int) = 1 + (fs.length : Int) := by omega
    obtain ⟨W9, hW9⟩ : ∃ W9, set7 W1 w.heap.size (.string ⟨#[]⟩) (.int .i64 0) (.int .i64 0) (.int .i64 0) (.int .i64 0) (.slice none 0 0) (.string ⟨#[]⟩) = W9 := ⟨_, rfl⟩
    have X9 : BxL W9 w.heap.size (cmV Cm.no (.slice none 0 0)) := by rw [← hW9]; exact set7_box HX1.out _ _ _ _ _ _ _
    have HB9 : Hid (Below w.heap.size w W9) := hid (by rw [← hW9]; exact set7_below HB1.out (Nat.le_refl _) _ _ _ _ _ _ _)
    have q0 := X9.c 0 _ rfl
    have q1 := X9.c 1 _ rfl
    have q2 := X9.c 2 _ rfl
    have q3 := X9.c 3 _ rfl
    have q4 := X9.c 4 _ rfl
    have q5 := X9.c 5 _ rfl
    have q6 := X9.c 6 _ rfl
    unfold set7 at hW9
    clear X9
    go_enter Tryz.func15, Tryz.ntmps15
    go_wp2_with fail
    refine bodyPost_ret (v := .tuple #[cmA Cm.no (.slice none 0 0), .bool false]) (by simp [results, Tryz.results15, go_sem, q0, q1, q2, q3, q4, q5, q6]; rfl) rfl ?_
    rw [HE.out]
    exact RfP.none HB9.out
end Go.Proofs.YtemfhnnkkmiamaaGreatDoor
