import Derived.Test.YtbimcammjohaoaeNwK
namespace Go.Proofs.Ytbimcammjohaoae.fnExactNewWorld
open Go.ChangeShapes Go.WideShapes Go.ChangeAt Go.RowKit
open Go.ChangeMaps (open_string shut_string)
set_option linter.unusedVariables false
set_option linter.unusedSimpArgs false

def okW (x : Int) : Bool := decide (1 ≤ x) && decide (x ≤ 8)
def wn (x : Int) : Nat := if okW x = true then x.toNat else 0
theorem NwA.none (w : World) (o : Obj) (W : World) (hb : Below w.heap.size w W) : NwA w W 0 (.agg #[.slice .none 0 0, .slice .none 0 0]) :=
  ⟨_, _, [], [], rfl, World.ownsRow_nil _ _ _ _, fun i hi => by omega, World.ownsRow_nil _ _ _ _, fun i hi => by simp [plO_zero] at hi, fun k hk => by simp [Value.ownBlock] at hk, hb⟩

set_option maxHeartbeats 400000 in
theorem implX (x : Int) (w : World) (h0 : -9223372036854775808 ≤ x) (h1 : x ≤ 9223372036854775807) : Calls Try.prog 7 #[.int .i64 x] w fun e w' => ∃ v, e = .returned (.tuple #[v, .bool (okW x)]) ∧ NwA w w' (wn x) v := by
  by_cases a : 1 ≤ x
  · by_cases b : x ≤ 8
    · have e1 : okW x = true := by simp [okW]; omega
      obtain ⟨n, rfl⟩ : ∃ n : Nat, x = (n : Int) := ⟨x.toNat, by omega⟩
      have e : wn (n : Int) = n := by simp [wn, e1]
      rw [e, e1]
      exact implW n w (by omega) (by omega)
    · have e1 : Hid (okW x = false) := hid (by simp [okW]; omega)
      have e : Hid (wn x = 0) := hid (by simp [wn, e1.out])
      rw [e.out, e1.out]
      have d0 : decide (x < 1) = false := by simp; omega
      have d1 : decide (8 < x) = true := by simp; omega
      have HB : Hid (Below w.heap.size w (w.alloc (.cells #[.slice none 0 0, .slice none 0 0] 25))) := hid ((Below.refl _ _).alloc (Nat.le_refl _) _)
      go_enter Try.func7, Try.ntmps7
      go_wp2_with fail
      refine bodyPost_ret (v := .tuple #[.agg #[.slice none 0 0, .slice none 0 0], .bool false]) (by simp [results, Try.results7, go_sem]) rfl ?_
      exact ⟨_, rfl, NwA.none w (.cells #[] 0) _ HB.out⟩
  · have e1 : Hid (okW x = false) := hid (by simp [okW]; omega)
    have e : Hid (wn x = 0) := hid (by simp [wn, e1.out])
    rw [e.out, e1.out]
    have d0 : decide (x < 1) = true := by simp; omega
    have HB : Hid (Below w.heap.size w (w.alloc (.cells #[.slice none 0 0, .slice none 0 0] 25))) := hid ((Below.refl _ _).alloc (Nat.le_refl _) _)
    go_enter Try.func7, Try.ntmps7
    go_wp2_with fail
    refine bodyPost_ret (v := .tuple #[.agg #[.slice none 0 0, .slice none 0 0], .bool false]) (by simp [results, Try.results7, go_sem]) rfl ?_
    exact ⟨_, rfl, NwA.none w (.cells #[] 0) _ HB.out⟩
theorem below4 (w : World) (o1 o2 o3 o4 : Obj) : Below w.heap.size w ((((w.alloc o1).alloc o2).alloc o3).alloc o4) := ((((Below.refl _ _).alloc (Nat.le_refl _) _).alloc (by simp) _).alloc (by simp; omega) _).alloc (by simp; omega) _
set_option maxHeartbeats 400000 in
theorem specX (x : Int) (w : World) (h0 : -9223372036854775808 ≤ x) (h1 : x ≤ 9223372036854775807) : Calls Try.prog 6 #[.int .i64 x] w fun e w' => ∃ v, e = .returned (.tuple #[v, .bool (okW x)]) ∧ NwA w w' (wn x) v := by
  have HB := hid (below4 w)
  by_cases a : 1 ≤ x
  · by_cases b : x ≤ 8
    · have e1 : okW x = true := by simp [okW]; omega
      obtain ⟨n, rfl⟩ : ∃ n : Nat, x = (n : Int) := ⟨x.toNat, by omega⟩
      have e : wn (n : Int) = n := by simp [wn, e1]
      rw [e, e1]
      exact specW n w (by omega) (by omega)
    · have e1 : Hid (okW x = false) := hid (by simp [okW]; omega)
      have e : Hid (wn x = 0) := hid (by simp [wn, e1.out])
      rw [e.out, e1.out]
      have d0 : decide (x < 1) = false := by simp; omega
      have d1 : decide (8 < x) = true := by simp; omega
      go_enter Try.func6, Try.ntmps6
      go_wp2_with fail
      refine bodyPost_ret (v := .tuple #[.agg #[.slice none 0 0, .slice none 0 0], .bool false]) (by simp [results, Try.results6, go_sem, World.cell?_alloc_past]) rfl ?_
      exact ⟨_, rfl, NwA.none w (.cells #[] 0) _ (HB.out _ _ _ _)⟩
  · have e1 : Hid (okW x = false) := hid (by simp [okW]; omega)
    have e : Hid (wn x = 0) := hid (by simp [wn, e1.out])
    rw [e.out, e1.out]
    have d0 : decide (x < 1) = true := by simp; omega
    go_enter Try.func6, Try.ntmps6
    go_wp2_with fail
    refine bodyPost_ret (v := .tuple #[.agg #[.slice none 0 0, .slice none 0 0], .bool false]) (by simp [results, Try.results6, go_sem, World.cell?_alloc_past]) rfl ?_
    exact ⟨_, rfl, NwA.none w (.cells #[] 0) _ (HB.out _ _ _ _)⟩
theorem wn_le (x : Int) : wn x ≤ 8 := by
  unfold wn okW; split
  · rename_i h; simp at h; omega
  · omega
theorem row_up {w w1 : World} {B : Nat} {e : TypeId} {size : Nat} {v : Value} {n : Nat} {xs : List Value} (h : w.ownsRow B e size v n xs) (hb : Below w.heap.size w w1) : w1.ownsRow B e size v n xs :=
  h.kept (row := none) ⟨hb.os, hb.tape, hb.output, hb.size, fun k hk _ => hb.block k hk⟩ (by cases v.ownBlock <;> simp)
def B2 (W : World) (b : Nat) (u v : Value) : Prop := W.cell? ⟨b, 0, none⟩ = some u ∧ W.cell? ⟨b, 1, none⟩ = some v ∧ b < W.heap.size
theorem B2.below {W W' : World} {B b : Nat} {u v : Value} (h : B2 W b u v) (hb : Below B W W') (hB : b < B) : B2 W' b u v :=
  ⟨(hb.cell (p := ⟨b, 0, none⟩) hB).trans h.1, (hb.cell (p := ⟨b, 1, none⟩) hB).trans h.2.1, Nat.lt_of_lt_of_le h.2.2 hb.size⟩
theorem B2.new (w : World) (u v : Value) (t : TypeId) : B2 (w.alloc (.cells #[u, v] t)) w.heap.size u v := by simp [B2]

set_option maxRecDepth 100000 in
set_option maxHeartbeats 1000000 in
theorem walk0 (x : Int) (h0 : -9223372036854775808 ≤ x) (h1 : x ≤ 9223372036854775807) (w : World) :
    Calls Try.prog 3 #[.int .i64 x] w fun e w' => e = .returned (.bool true) ∧ Below w.heap.size w w' := by
  have HS := hid (fun w' => specX x w' h0 h1)
  have HI := hid (fun w' => implX x w' h0 h1)
  have hn := wn_le x
  obtain ⟨o, ho⟩ : ∃ o, okW x = o := ⟨_, rfl⟩
  obtain ⟨n, hy⟩ : ∃ n, wn x = n := ⟨_, rfl⟩
  rw [ho, hy] at HS HI
  rw [hy] at hn
  have HL : Hid ((plO n n).length ≤ 64) := hid (by have := plO_len n n; have := Nat.mul_le_mul hn hn; omega)
  clear ho hy
  have hoo : (o != o) = false := by simp
  go_enter Try.func3, Try.ntmps3
  go_wp2_with fail
  refine (HS.out _).mono ?_
  rintro e w1 ⟨v1, rfl, r1, p1, xs1, ys1, rfl, or1, rx1, op1, px1, _, b1⟩
  obtain ⟨W1, hW1⟩ : ∃ W1, w1.alloc (.cells #[r1, p1] 25) = W1 := ⟨_, rfl⟩
  have X1 : Hid (B2 W1 w1.heap.size r1 p1) := by rw [← hW1]; exact hid (B2.new _ _ _ _)
  have bb : Below w1.heap.size w1 W1 := by rw [← hW1]; exact (Below.refl _ _).alloc (Nat.le_refl _) _
  have B1 := hid (keepN b1 bb)
  have R1 := hid ((rd_of or1).below bb (Nat.le_refl _))
  have P1 := hid ((rd_of op1).below bb (Nat.le_refl _))
  have RX1 := hid rx1
  have PX1 := hid px1
  obtain ⟨ra1, rc1, rfl⟩ := row_form or1
  obtain ⟨pa1, pc1, rfl⟩ := row_form op1
  obtain ⟨m, hm⟩ : ∃ m, (plO n n).length = m := ⟨_, rfl⟩
  have HM := hid hm
  rw [hm] at P1 PX1 X1 hW1 HL ⊢
  clear bb b1 or1 op1 rx1 px1 hm
  go_wp2_with fail
  try rw [hW1]
  clear hW1
  refine (HI.out _).mono ?_
  rintro e w2 ⟨v2, rfl, r2, p2, xs2, ys2, rfl, or2, rx2, op2, px2, dj2, b2⟩
  rw [HM.out] at op2 px2
  obtain ⟨W2, hW2⟩ : ∃ W2, w2.alloc (.cells #[r2, p2] 25) = W2 := ⟨_, rfl⟩
  have X2 : Hid (B2 W2 w2.heap.size r2 p2) := by rw [← hW2]; exact hid (B2.new _ _ _ _)
  have bb : Below w2.heap.size w2 W2 := by rw [← hW2]; exact (Below.refl _ _).alloc (Nat.le_refl _) _
  have C2 := hid (keepN b2 bb)
  have X12 := hid (X1.out.below C2.out X1.out.2.2)
  have OR2 := hid (row_up or2 bb)
  have OP2 := hid (row_up op2 bb)
  have N2 : Hid (r2.ownBlock ≠ some w2.heap.size ∧ p2.ownBlock ≠ some w2.heap.size) := hid ⟨fun e => by have := (or2.lt _ e).2; omega, fun e => by have := (op2.lt _ e).2; omega⟩
  have RX2 := hid rx2
  have PX2 := hid px2
  have DJ2 := hid dj2
  obtain ⟨ra2, rc2, rfl⟩ := row_form or2
  obtain ⟨pa2, pc2, rfl⟩ := row_form op2
  clear bb b2 or2 op2 rx2 px2 dj2
  obtain ⟨x0, x1, _⟩ := X2.out
  obtain ⟨y0, y1, _⟩ := X12.out
  have HQ := hid (eqWld n m _ _ _ _ idF (pf (plO n n)) xs2 xs1 ys2 ys1 W2 (by omega) (by have := HL.out; omega) (rd_of OR2.out) (R1.out.below C2.out (Nat.le_refl _)) (rd_of OP2.out) (P1.out.below C2.out (Nat.le_refl _)) RX2.out RX1.out PX2.out PX1.out)
  go_wp2_with fail
  try rw [hW2]
  clear hW2
  refine HQ.out.mono ?_
  rintro e w3 ⟨rfl, b3⟩
  have X23 := hid (X2.out.below b3 X2.out.2.2)
  have C3 := hid (keepN C2.out b3)
  have OR3 := hid (row_up OR2.out b3)
  have OP3 := hid (row_up OP2.out b3)
  have Z3 : Hid (w2.heap.size < w3.heap.size ∧ W1.heap.size ≤ w3.heap.size) := hid ⟨X23.out.2.2, C3.out.size⟩
  clear b3 x0 x1 y0 y1 HQ X2 C2 OR2 OP2 X12
  obtain ⟨x0, x1, _⟩ := X23.out
  have HK := hid (markWld W1.heap.size n m 1 _ _ idF (pf (plO n n)) xs2 ys2 w3 Z3.out.2 (by omega) (by omega) (by have := HL.out; omega) OR3.out RX2.out OP3.out PX2.out DJ2.out)
  go_wp2_with fail
  refine HK.out.mono ?_
  rintro e w4 ⟨rfl, b4, xs4, ys4, r4, rx4, p4, px4, k4⟩
  have e4 := k4 w2.heap.size Z3.out.1 N2.out.1 N2.out.2
  have m0 := (World.cell?_of_block (a := ⟨w2.heap.size, 0, none⟩) e4).trans x0
  have m1 := (World.cell?_of_block (a := ⟨w2.heap.size, 1, none⟩) e4).trans x1
  have C4 := hid (C3.out.trans b4)
  have HH := hid (heldWld n m 1 _ _ idF (pf (plO n n)) xs4 ys4 w4 (by omega) (by omega) (by have := HL.out; omega) r4 rx4 p4 px4)
  obtain ⟨u, hu⟩ : ∃ u, 1 + n + 4 * m = u := ⟨_, rfl⟩
  rw [hu] at HH ⊢
  have d1 : decide ((u : Int) < 0) = false := by simp
  have d2 : ((u : Int) != (u : Int)) = false := by simp
  clear b4 r4 rx4 p4 px4 k4 e4 x0 x1 HK hu C3 OR3 OP3 X23
  go_wp2_with fail
  refine HH.out.mono ?_
  rintro e w5 ⟨rfl, b5⟩
  have C5 := hid (C4.out.trans (b5.mono C4.out.size))
  clear b5 m0 m1 HH C4
  go_wp2_with fail
  refine (HI.out _).mono ?_
  rintro e w6 ⟨v6, rfl, r6, p6, xs6, ys6, rfl, or6, rx6, op6, px6, _, b6⟩
  rw [HM.out] at op6 px6
  obtain ⟨W6, hW6⟩ : ∃ W6, w6.alloc (.cells #[r6, p6] 25) = W6 := ⟨_, rfl⟩
  have X6 : Hid (B2 W6 w6.heap.size r6 p6) := by rw [← hW6]; exact hid (B2.new _ _ _ _)
  have bb : Below w6.heap.size w6 W6 := by rw [← hW6]; exact (Below.refl _ _).alloc (Nat.le_refl _) _
  have C6 := hid (C5.out.trans ((keepN b6 bb).mono C5.out.size))
  have X16 := hid (X1.out.below C6.out X1.out.2.2)
  have OR6 := hid (row_up or6 bb)
  have OP6 := hid (row_up op6 bb)
  have RX6 := hid rx6
  have PX6 := hid px6
  obtain ⟨ra6, rc6, rfl⟩ := row_form or6
  obtain ⟨pa6, pc6, rfl⟩ := row_form op6
  clear bb b6 or6 op6 rx6 px6
  obtain ⟨x0, x1, _⟩ := X6.out
  obtain ⟨y0, y1, _⟩ := X16.out
  have HQ := hid (eqWld n m _ _ _ _ idF (pf (plO n n)) xs6 xs1 ys6 ys1 W6 (by omega) (by have := HL.out; omega) (rd_of OR6.out) (R1.out.below C6.out (Nat.le_refl _)) (rd_of OP6.out) (P1.out.below C6.out (Nat.le_refl _)) RX6.out RX1.out PX6.out PX1.out)
  go_wp2_with fail
  try rw [hW6]
  clear hW6
  refine HQ.out.mono ?_
  rintro e w7 ⟨rfl, b7⟩
  have B7 := hid ((B1.out.trans (C6.out.mono B1.out.size)).trans (b7.mono (by have := B1.out.size; have := C6.out.size; omega)))
  clear b7 x0 x1 y0 y1 HQ
  go_wp2_with fail
  go_ret
  exact ⟨rfl, B7.out⟩

theorem walk (a0 : Int) (w0 : (Lit.int .i64 a0).wf = true) (w : World) :
    Calls Try.prog 3 #[.int .i64 a0] w fun e w' => e = .returned (.bool true) ∧ Below w.heap.size w w' := by
  have b := bounds_i64 w0
  exact walk0 a0 b.1 (by omega) w

set_option maxRecDepth 100000 in
theorem lifted (os : Os) (started : os.Started) (H : Type) (enc : TypeId × Value → H) :
    ReturnsInHanded {} Try.checked os 3 .any (Rows.fnExactNewWorldSpec.pre6 enc Try.prog Try.f3 Rows.fnExactNewWorldRow.domain false) (Rows.fnExactNewWorldSpec.post enc Try.prog Try.f3 false true false false) := by
  refine returnsInHanded_of_change (C := Try.checked) own started (by kernel_rfl) Try.func3
    (ChangeSpec.witness6 (enc := enc) (C := Try.checked) false ⟨#[], #[.int .i64 0], []⟩ 8 (by kernel_rfl) (by kernel_rfl) (by kernel_rfl) (by kernel_rfl)) ?_
  intro W base args ds gs before hval0 hW hcnd _
  have hval : ∀ (j : Nat) t v, Try.f3.params[j]? = some t → args[j]? = some v → Value.okWide Try.prog W .any base t v := hval0
  have hW' := hW
  obtain ⟨p, q, hA0, hV, rfl, hfz, hnd⟩ := hW
  have hA : DataW.TrodAll enc Try.prog W 0 (fun _ => true) true Try.f3.params.toList args.toList ds p := hA0
  rw [Try.params3] at hA hval
  obtain ⟨v0, vs0, d0, ds0, p0, q0, hargs, rfl, rfl, h0, r0⟩ := trodAll_cons hA
  obtain ⟨rfl, rfl, rfl⟩ := trodAll_nil r0
  obtain rfl : args = #[v0] := by cases args; simp_all
  obtain ⟨rfl, rfl⟩ := trodVars_none hV
  obtain ⟨a0, rfl, rfl, rfl, w0⟩ := open_int Try.underlying3 (hval 0 3 v0 rfl rfl) h0
  clear hA0 hval0
  refine (walk a0 w0 W).mono fun e W' ⟨he, bel⟩ => ?_
  subst he
  exact ⟨_, rfl, _, _, _, [], _, [], hW', (trodAll_cons_mk (shut_bool Try.underlying4 _) trodAll_mk0), (trodAll_cons_mk (shut_int Try.underlying3 w0) trodAll_mk0), rfl, bel.frame _, fun h => by cases h⟩

theorem over : Rows.fnExactNewWorldRow.holds Try.pinned (OpenSpec.ofChange Rows.fnExactNewWorldSpec) :=
  OpenClaim.holds_of_wide 3 Try.f3 rfl rfl rfl rfl rfl rfl rfl ⟨rfl, rfl, rfl, rfl, rfl⟩ rfl rfl rfl rfl rfl (by kernel_rfl) Try.func3 (by kernel_rfl)
    (of_decide_eq_true (by kernel_rfl)) (by unfold Func.isWrapper; first | (rw [if_pos (by decide +kernel)]; kernel_rfl) | (rw [if_neg (by decide +kernel)]; exact ⟨rfl, rfl⟩))
    (fun os started H enc _ => lifted os started H enc)

theorem proved : Rows.FnExactNewWorldSaid :=
  over
end Go.Proofs.Ytbimcammjohaoae.fnExactNewWorld

namespace Go.Proofs.Ytbimcammjohaoae
theorem newWorldHolds : Rows.FnExactNewWorldSaid := fnExactNewWorld.proved
#print axioms newWorldHolds
end Go.Proofs.Ytbimcammjohaoae
