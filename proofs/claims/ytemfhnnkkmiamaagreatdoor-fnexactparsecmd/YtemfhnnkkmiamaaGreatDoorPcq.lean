import Derived.Test.YtemfhnnkkmiamaaGreatDoorPcl
import Derived.Test.YtemfhnnkkmiamaaGreatDoorPch
import Derived.Carry
namespace Go.Proofs.YtemfhnnkkmiamaaGreatDoor
open Go.ChangeShapes Go.WideShapes Go.ChangeAt Go.RowKit
set_option linter.unusedVariables false
set_option linter.unusedSimpArgs false

theorem infoRow : (Tryz.prog.info? 43).map (fun i => (i.zero, i.size, i.bytes)) = some (some (.slice none 0 0), 1, 24) := by kernel_rfl
set_option maxRecDepth 100000 in
theorem run_append_mkF (w : World) (m : Nat) (ty : TypeId) (h0 : 0 < m) (hm : m ≤ 4194304) : (Builtin.append_ #[37, 3] ty #[.slice none 0 0, .int .i64 (m : Int)]).run Tryz.prog w =
    .ok (.slice (some ⟨w.heap.size, 0, none⟩) m (grownCap w m 0 43)) (w.drew.alloc (.cells (Builtin.zeroCells #[.slice none 0 0] m ++ Builtin.zeroCells #[.slice none 0 0] (grownCap w m 0 43 - m)) 43)) := by
  obtain ⟨i0, hi, hz0, hz1, hz2⟩ := info_parts infoRow
  have hn : m ≠ 0 := by omega
  have hw : IntKind.i64.wrap (m : Int) = (m : Int) := by rw [IntKind.wrap_i64]; omega
  have h63' : ¬ (9223372036854775807 < (m : Int)) := by omega
  have hneg : ¬ ((m : Int) < 0) := by omega
  have h48 : ¬ (281474976710656 < 24 * (m : Int)) := by omega
  have h48a : ¬ (281474976710656 < (m : Int) * 24) := by omega
  have h48b : ¬ (281474976710656 < m * 24) := by omega
  have hp : ¬ ((m : Int) ≤ 0) := by omega
  have hmx : max (m : Int) 0 = (m : Int) := by omega
  have hA : (asInt (.int .i64 (m : Int))).run Tryz.prog w = .ok (m : Int) w := by first | rfl | simp [asInt, asIntOf]
  have h48' : ¬ (281474976710656 < Builtin.nextslicecap m 0 * 24) := by rw [nextslicecap_zero h0]; omega
  simp [Builtin.append_, run_underlying Tryz.underlying37, run_underlying Tryz.underlying3, sizeOf, typeInfo, zeroValue, hi, hz0, hz1, hz2, Builtin.lenOf, hn, hw, h63', hneg, h48, h48a, h48b, h48', Question.forced, run_firstCells_none, newRow, grownCap, hA, hp, hmx, Value.cells]
theorem wpList_app_mkF {w : World} {ops : Array Oper} {rest : List Oper} {o : Oper} {a : Act} {Q : Exit → Act → World → Prop} (hgd : o.guard = none) (s x : Operand)
    (ho : o.op = .call { callee := .builtin .append, args := #[s, x], argTypes := #[37, 3] }) (m : Nat) (h0 : 0 < m) (hm : m ≤ 4194304) (hs : a.eval s = .slice none 0 0) (hx : a.eval x = .int .i64 (m : Int))
    (h : ∀ cap w', Hid (w'.ownsRow w.heap.size 43 1 (.slice (some ⟨w.heap.size, 0, none⟩) 0 cap) 0 []) → Hid (Below w.heap.size w w') → wpList Tryz.prog ops Q rest (a.put o.dst (.slice (some ⟨w.heap.size, 0, none⟩) m cap)) w') : wpList Tryz.prog ops Q (o :: rest) a w :=
  wpList_plain hgd fun _ hK => by
    unfold Oper.wp execOp
    simp only [ho, resolve, invoke, builtin, Sem.run_bind, Sem.run_pure, Result.andThen_ok, List.map_toArray, List.map_cons, List.map_nil, hs, hx, run_append_mkF w m _ h0 hm]
    refine hK _ _ (h _ _ (hid ?_) (hid ?_))
    · refine World.ownsRow_made (base := w.heap.size) (e := 43) (size := 1) w.drew _ _ (Nat.le_refl _) (grownCap_le_maxLen w m 0 _ (by unfold maxLen; omega)) ?_
      have := grownCap_ge w m 0 43
      simp [size_zeroCells]; omega
    · exact (Below.refl _ _).drew.alloc (Nat.le_refl _) _
set_option maxRecDepth 100000 in
set_option maxHeartbeats 1000000 in
theorem growF (w : World) :
    Calls Tryz.prog 46 #[.slice none 0 0, .int .i64 2] w fun e w' => ∃ v, e = .returned v ∧ w'.ownsRow w.heap.size 43 1 v 0 [] ∧ Below w.heap.size w w' := by
  go_enter Tryz.func46, Tryz.ntmps46
  go_wp2_with (at_builtin; refine wpList_app_mkF rfl _ _ rfl 2 (by omega) (by omega) rfl rfl ?_)
  intro cap w1 HO HB
  go_wp2_with fail
  go_ret
  exact ⟨_, rfl, HO.out, HB.out⟩
set_option maxRecDepth 100000 in
set_option maxHeartbeats 2000000 in
theorem concatF (g ga gp c1 c2 : Nat) (v1 v2 : Value) (w : World) (h0 : w.cell? ⟨g, 0, none⟩ = some (.slice (some ⟨ga, 0, none⟩) 1 c1)) (h1 : w.cell? ⟨g, 1, none⟩ = some (.slice (some ⟨gp, 0, none⟩) 1 c2)) (k1 : w.cell? ⟨ga, 0, none⟩ = some v1) (k2 : w.cell? ⟨gp, 0, none⟩ = some v2) (q1 : v1.oneCell' = true) (q2 : v2.oneCell' = true) :
    Calls Tryz.prog 23 #[.slice (some ⟨g, 0, none⟩) 2 2] w fun e w' => ∃ h cap, e = .returned (.slice (some ⟨h, 0, none⟩) 2 cap) ∧ w'.ownsRow w.heap.size 43 1 (.slice (some ⟨h, 0, none⟩) 2 cap) 2 [v1, v2] ∧ Below w.heap.size w w' := by
  obtain ⟨i0, hi, hz0, hz1, hz2⟩ := info_parts infoRow
  have HG := hid (growF w)
  have HK1 := hid k1
  have HK2 := hid k2
  have HH0 := hid h0
  have HH1 := hid h1
  clear k1 k2
  go_enter Tryz.func23, Tryz.ntmps23
  go_wp2_with fail
  refine wp_loop_rounds 3 ?_
  rw [rounds_succ]
  go_wp2_with fail
  rw [rounds_succ]
  go_wp2_with fail
  rw [rounds_succ]
  go_wp2_with fail
  refine HG.out.mono ?_
  rintro e w1 ⟨u1, rfl, o1, b1⟩
  have st1 := Cst.below b1
  have k0 := st1 _ _ _ HH0.out
  have k1 := st1 _ _ _ HH1.out
  have HB1 := hid b1
  obtain ⟨u2, w2, r2, o2, g2, _⟩ := run_append_own (P := Tryz.prog) w1 w.heap.size 37 37 43 i0 (.slice none 0 0) 1 24 Tryz.underlying37 hi hz0 hz1 hz2 rfl (by decide) u1 0 [] o1 ⟨ga, 0, none⟩ 1 c1 [v1] rfl (fun j u hu => by
    match j, hu with
    | 0, hu => simp at hu; subst hu; exact st1 _ _ _ HK1.out
    | j + 1, hu => simp at hu) (fun u hu => by simp at hu; subst hu; exact q1) (by unfold maxLen; omega) (by omega) b1.size
  have b2 : Below w.heap.size w w2 := b1.grown g2 b1.size (fun q hq => (World.ownsRow.lt o1 q hq).1)
  have st2 := Cst.below b2
  have m1 := st2 _ _ _ HH1.out
  obtain ⟨u3, w3, r3, o3, g3, _⟩ := run_append_own (P := Tryz.prog) w2 w.heap.size 37 37 43 i0 (.slice none 0 0) 1 24 Tryz.underlying37 hi hz0 hz1 hz2 rfl (by decide) u2 (0 + 1) ([] ++ [v1]) o2 ⟨gp, 0, none⟩ 1 c2 [v2] rfl (fun j u hu => by
    match j, hu with
    | 0, hu => simp at hu; subst hu; exact st2 _ _ _ HK2.out
    | j + 1, hu => simp at hu) (fun u hu => by simp at hu; subst hu; exact q2) (by unfold maxLen; omega) (by omega) b2.size
  have b3 : Below w.heap.size w w3 := b2.grown g3 b2.size (fun q hq => (World.ownsRow.lt o2 q hq).1)
  obtain ⟨h, cap, rfl⟩ : ∃ h cap, u3 = .slice (some ⟨h, 0, none⟩) 2 cap := by
    rcases o3.2 with ⟨_, h0⟩ | ⟨h, cap, cur, e, _⟩
    · cases h0
    · exact ⟨h, cap, e⟩
  have HO3 := hid o3
  have HB3 := hid b3
  clear st1 st2 o1 o2 o3 g2 g3 b1 b2 b3 h0 h1 HG
  have R2 := hid r2
  have R3 := hid r3
  clear r2 r3
  go_wp2_with fail
  refine wp_loop_rounds 3 ?_
  rw [rounds_succ]
  go_wp2_with (at_builtin; refine wpList_app2 rfl _ _ _ _ rfl R2.out rfl rfl rfl ?_)
  clear k0 k1
  go_wp2_with fail
  rw [rounds_succ]
  go_wp2_with (at_builtin; refine wpList_app2 rfl _ _ _ _ rfl R3.out rfl rfl rfl ?_)
  go_wp2_with fail
  rw [rounds_succ]
  go_wp2_with fail
  go_ret
  exact ⟨_, _, rfl, HO3.out, HB3.out⟩
set_option maxHeartbeats 1000000 in
theorem changeC (v : Int) (w : World) : Calls Tryz.prog 20 #[.int .i64 v] w fun e w' => ∃ fn x y, e = .returned (.func fn x y) ∧ Below w.heap.size w w' := by
  have hb : ∀ o, Below w.heap.size w (w.alloc o) := fun o => (Below.refl _ _).alloc (Nat.le_refl _) o
  have HB := hid hb
  clear hb
  go_enter Tryz.func20, Tryz.ntmps20
  go_wp2_with fail
  go_ret
  exact ⟨_, _, _, rfl, HB.out _⟩
set_option maxHeartbeats 1000000 in
theorem sayC (fn : Fn) (x y : Array Value) (w : World) : Calls Tryz.prog 26 #[.func fn x y] w fun e w' => ∃ fn x y, e = .returned (.func fn x y) ∧ Below w.heap.size w w' := by
  have hb : ∀ o, Below w.heap.size w (w.alloc o) := fun o => (Below.refl _ _).alloc (Nat.le_refl _) o
  have HB := hid hb
  clear hb
  go_enter Tryz.func26, Tryz.ntmps26
  go_wp2_with fail
  go_ret
  exact ⟨_, _, _, rfl, HB.out _⟩
set_option maxHeartbeats 1000000 in
theorem onMessagesC (fn : Fn) (x y : Array Value) (w : World) : Calls Tryz.prog 31 #[.func fn x y] w fun e w' => ∃ fn x y, e = .returned (.func fn x y) ∧ Below w.heap.size w w' := by
  have hb : ∀ o, Below w.heap.size w (w.alloc o) := fun o => (Below.refl _ _).alloc (Nat.le_refl _) o
  have HB := hid hb
  clear hb
  go_enter Tryz.func31, Tryz.ntmps31
  go_wp2_with fail
  go_ret
  exact ⟨_, _, _, rfl, HB.out _⟩
theorem FSeg.made (w : World) (l : List Nat) (hl : l.length ≤ 1000) : FSeg ((w.alloc (.cells (l.map fun (x : Nat) => Value.int .i64 (x : Int)).toArray 48)).alloc (.cells #[.slice (some ⟨w.heap.size, 0, none⟩) l.length l.length] 43)) (some ⟨w.heap.size + 1, 0, none⟩) [l] := by
  refine ⟨w.heap.size + 1, rfl, fun i l' hl' => ?_⟩
  match i, hl' with
  | 0, hl' =>
    simp at hl'
    subst hl'
    refine ⟨some ⟨w.heap.size, 0, none⟩, l.length, ?_, ⟨w.heap.size, rfl, fun i x hx => ?_⟩, Nat.le_refl _, hl⟩
    · rw [World.cell?_alloc_at _ _ _ _ (by simp)]
      rfl
    · rw [World.cell?_alloc_lt _ _ _ (by simp)]
      simp [hx]
  | i + 1, hl' => simp at hl'
theorem belowTwo (w : World) (o o' : Obj) : Below w.heap.size w ((w.alloc o).alloc o') := ((Below.refl _ _).alloc (Nat.le_refl _) o).alloc (by simp) o'

structure CQ (w0 w : World) (bm c : Nat) (f : ByteArray → List (List Nat)) (a1 a2 a3 : Option Addr) : Prop where
  low : Below w0.heap.size w0 w
  cb : CB w bm c f
  r1 : FSeg w a1 [[0]]
  r2 : FSeg w a2 [[0, 4]]
  r3 : FSeg w a3 [[0, 1]]
  le : w0.heap.size ≤ bm
theorem CQ.below {w0 w w' : World} {bm c : Nat} {f : ByteArray → List (List Nat)} {a1 a2 a3 : Option Addr} (h : CQ w0 w bm c f a1 a2 a3) (hb : Below w.heap.size w w') : CQ w0 w' bm c f a1 a2 a3 :=
  ⟨keepS h.low hb, h.cb.below hb, h.r1.st (Cst.below hb), h.r2.st (Cst.below hb), h.r3.st (Cst.below hb), h.le⟩
theorem CQ.put {w0 w w' : World} {bm c c' : Nat} {f f' : ByteArray → List (List Nat)} {a1 a2 a3 : Option Addr} (h : CQ w0 w bm c f a1 a2 a3) (cb : CB w' bm c' f') (g : w.grownBy w' (some bm)) (st : Cst w w') : CQ w0 w' bm c' f' a1 a2 a3 :=
  ⟨h.low.grown g h.low.size (fun k e => by injection e with e; have := h.le; omega), cb, h.r1.st st, h.r2.st st, h.r3.st st, h.le⟩
theorem FSeg.made' (w : World) (l : List Nat) (k : Nat) (hk : w.heap.size = k) (hl : l.length ≤ 1000) : FSeg ((w.alloc (.cells (l.map fun (x : Nat) => Value.int .i64 (x : Int)).toArray 48)).alloc (.cells #[.slice (some ⟨k, 0, none⟩) l.length l.length] 43)) (some ⟨k + 1, 0, none⟩) [l] := by
  subst hk; exact FSeg.made w l hl
theorem CB.made' (w : World) (k : Nat) (hk : w.heap.size = k) : CB (w.alloc (.map #[] 0)) k 0 (fun _ => []) := by subst hk; exact CB.made w
def st1 (w : World) : World := (w.alloc (.cells #[.int .i64 0] 48)).alloc (.cells #[.slice (some ⟨w.heap.size, 0, none⟩) 1 1] 43)
def st2 (w : World) : World := ((st1 w).alloc (.cells #[.int .i64 0, .int .i64 4] 48)).alloc (.cells #[.slice (some ⟨w.heap.size + 1 + 1, 0, none⟩) 2 2] 43)
def st3 (w : World) : World := ((st2 w).alloc (.cells #[.int .i64 0, .int .i64 1] 48)).alloc (.cells #[.slice (some ⟨w.heap.size + 1 + 1 + 1 + 1, 0, none⟩) 2 2] 43)
def st4 (w : World) : World := (st3 w).alloc (.map #[] 0)
def startW (w : World) : World := ((st4 w).alloc (.cells #[.int .i64 0, .int .i64 4, .int .i64 5] 48)).alloc (.cells #[.slice (some ⟨w.heap.size + 1 + 1 + 1 + 1 + 1 + 1 + 1, 0, none⟩) 3 3] 43)
theorem startC (w : World) : CQ w (startW w) (w.heap.size + 1 + 1 + 1 + 1 + 1 + 1) 0 (fun _ => []) (some ⟨w.heap.size + 1, 0, none⟩) (some ⟨w.heap.size + 1 + 1 + 1, 0, none⟩) (some ⟨w.heap.size + 1 + 1 + 1 + 1 + 1, 0, none⟩) ∧ FSeg (startW w) (some ⟨w.heap.size + 1 + 1 + 1 + 1 + 1 + 1 + 1 + 1, 0, none⟩) [[0, 4, 5]] := by
  have z1 : (st1 w).heap.size = w.heap.size + 1 + 1 := by simp [st1]
  have z2 : (st2 w).heap.size = w.heap.size + 1 + 1 + 1 + 1 := by simp [st2, z1]
  have z3 : (st3 w).heap.size = w.heap.size + 1 + 1 + 1 + 1 + 1 + 1 := by simp [st3, z2]
  have z4 : (st4 w).heap.size = w.heap.size + 1 + 1 + 1 + 1 + 1 + 1 + 1 := by simp [st4, z3]
  have b1 : Below w.heap.size w (st1 w) := belowTwo _ _ _
  have b2 : Below (st1 w).heap.size (st1 w) (st2 w) := belowTwo _ _ _
  have b3 : Below (st2 w).heap.size (st2 w) (st3 w) := belowTwo _ _ _
  have b4 : Below (st3 w).heap.size (st3 w) (st4 w) := (Below.refl _ _).alloc (Nat.le_refl _) _
  have b5 : Below (st4 w).heap.size (st4 w) (startW w) := belowTwo _ _ _
  have r1 : FSeg (st1 w) (some ⟨w.heap.size + 1, 0, none⟩) [[0]] := FSeg.made' w [0] _ rfl (by decide)
  have r2 : FSeg (st2 w) (some ⟨w.heap.size + 1 + 1 + 1, 0, none⟩) [[0, 4]] := FSeg.made' (st1 w) [0, 4] _ z1 (by decide)
  have r3 : FSeg (st3 w) (some ⟨w.heap.size + 1 + 1 + 1 + 1 + 1, 0, none⟩) [[0, 1]] := FSeg.made' (st2 w) [0, 1] _ z2 (by decide)
  have r5 : FSeg (startW w) (some ⟨w.heap.size + 1 + 1 + 1 + 1 + 1 + 1 + 1 + 1, 0, none⟩) [[0, 4, 5]] := FSeg.made' (st4 w) [0, 4, 5] _ z4 (by decide)
  have q : CQ w (st4 w) (w.heap.size + 1 + 1 + 1 + 1 + 1 + 1) 0 (fun _ => []) (some ⟨w.heap.size + 1, 0, none⟩) (some ⟨w.heap.size + 1 + 1 + 1, 0, none⟩) (some ⟨w.heap.size + 1 + 1 + 1 + 1 + 1, 0, none⟩) :=
    ⟨keepS (keepS (keepS b1 b2) b3) b4, CB.made' _ _ z3, ((r1.st (Cst.below b2)).st (Cst.below b3)).st (Cst.below b4), (r2.st (Cst.below b3)).st (Cst.below b4), r3.st (Cst.below b4), by omega⟩
  exact ⟨q.below b5, r5⟩
theorem fseg1 {w : World} {g : Nat} {l : List Nat} (h : FSeg w (some ⟨g, 0, none⟩) [l]) : ∃ a c, w.cell? ⟨g, 0, none⟩ = some (.slice a l.length c) ∧ ISeg w a l ∧ l.length ≤ c ∧ c ≤ 1000 := by
  obtain ⟨b, e, h⟩ := h
  cases e
  exact h 0 l rfl
theorem fseg2 {w : World} {B h c : Nat} {a1 a2 : Option Addr} {c1 c2 : Nat} {l1 l2 : List Nat} (ho : w.ownsRow B 43 1 (.slice (some ⟨h, 0, none⟩) 2 c) 2 [.slice a1 l1.length c1, .slice a2 l2.length c2]) (i1 : ISeg w a1 l1) (i2 : ISeg w a2 l2) (h1 : l1.length ≤ c1 ∧ c1 ≤ 1000) (h2 : l2.length ≤ c2 ∧ c2 ≤ 1000) : FSeg w (some ⟨h, 0, none⟩) [l1, l2] := by
  rcases ho.2 with ⟨h0, _⟩ | ⟨h', cap, cur, e, hbase, hb, hl, hm, hs, ht⟩
  · cases h0
  · cases e
    have hc : ∀ i v, [Value.slice a1 l1.length c1, .slice a2 l2.length c2][i]? = some v → w.cell? ⟨h, i, none⟩ = some v := fun i v hv => by
      rw [← ht] at hv
      have hi : i < 2 := by
        have := (List.getElem?_eq_some_iff.1 hv).1
        simp at this; omega
      rw [List.getElem?_take_of_lt (by omega)] at hv
      simp [World.cell?, hb]
      simpa using hv
    refine ⟨h, rfl, fun i l hl => ?_⟩
    match i, hl with
    | 0, hl => simp at hl; subst hl; exact ⟨a1, c1, hc 0 _ rfl, i1, h1⟩
    | 1, hl => simp at hl; subst hl; exact ⟨a2, c2, hc 1 _ rfl, i2, h2⟩
    | i + 2, hl => simp at hl
set_option maxRecDepth 100000 in
theorem upon_cmd {w : World} {b c : Nat} {f : ByteArray → List (List Nat)} (h : CB w b c f) (hc : c < 1000) {k : ByteArray} (hk : k.size ≤ 100) {ad : Option Addr} {n cap : Nat} {fv : Value} (fs : List (List Nat)) (hr : FSeg w ad fs) (hn : fs.length = n) {o : Oper} {a : Act} {K : Act → World → Prop} {Q : Exit → Act → World → Prop} {F : Unit → World → Result Next}
    (hK : ∀ w', CB w' b (c + 1) (updC f k.data.toList fs) → w.grownBy w' (some b) → Cst w w' → Oper.upon Tryz.prog o a K Q ((Result.ok () w').andThen F)) :
    Oper.upon Tryz.prog o a K Q ((Sem.run Tryz.prog (Instr.mapUpdate 41 (.map (some b)) (.string k) (.agg #[.slice ad n cap, fv])) w).andThen F) := by
  obtain ⟨w', r1, r2, r3, r4⟩ := h.put hc k hk ad cap fv fs hr
  rw [hn] at r1
  rw [r1]
  exact hK w' r2 r3 r4
def allC : ByteArray → List (List Nat) := (updC (updC (updC (updC (updC (updC (updC (updC (updC (updC (updC (updC (updC (updC (updC (updC (updC (fun _ => []) [112, 117, 116] [[0, 4, 5]]) [111, 110] [[0, 4]]) [111, 102, 102] [[0, 4]]) [114, 101, 109, 111, 118, 101] [[0, 4]]) [114, 101, 97, 100] [[0, 4]]) [102, 108, 97, 103] [[0, 4]]) [107, 101, 121, 115] [[0], [0, 4]]) [115, 117, 109] [[0]]) [104, 101, 108, 108, 111] [[0, 1]]) [119, 104, 111, 108, 101] [[0, 1]]) [102, 108, 117, 115, 104] [[0, 1]]) [100, 101, 108, 105, 118, 101, 114] [[0, 1, 2]]) [100, 114, 111, 112] [[0, 1]]) [100, 117, 112] [[0, 1]]) [116, 117, 114, 110] [[0, 1]]) [102, 108, 105, 112] [[0, 1, 2, 3]]) [114, 101, 115, 101, 116] [[0, 1]])
set_option maxRecDepth 100000 in
theorem all_forms (x : ByteArray) : allC x = formsW x := by
  unfold allC formsW hasT wPth wPip
  simp only [updC, List.any_cons, List.any_nil, Lib.toList_data, Bool.or_false]
  obtain ⟨l, hl⟩ : ∃ l, x.data.toList = l := ⟨_, rfl⟩
  rw [hl]
  by_cases h : l ∈ ([[112, 117, 116], [111, 110], [111, 102, 102], [114, 101, 109, 111, 118, 101], [114, 101, 97, 100], [102, 108, 97, 103], [107, 101, 121, 115], [115, 117, 109], [104, 101, 108, 108, 111], [119, 104, 111, 108, 101], [102, 108, 117, 115, 104], [100, 101, 108, 105, 118, 101, 114], [100, 114, 111, 112], [100, 117, 112], [116, 117, 114, 110], [102, 108, 105, 112], [114, 101, 115, 101, 116]] : List (List UInt8))
  · simp only [List.mem_cons, List.not_mem_nil, or_false] at h
    rcases h with rfl | rfl | rfl | rfl | rfl | rfl | rfl | rfl | rfl | rfl | rfl | rfl | rfl | rfl | rfl | rfl | rfl <;> rfl
  · simp only [List.mem_cons, List.not_mem_nil, or_false, not_or] at h
    obtain ⟨h0, h1, h2, h3, h4, h5, h6, h7, h8, h9, h10, h11, h12, h13, h14, h15, h16⟩ := h
    have q : ∀ m : List UInt8, l ≠ m → (l == m) = false := fun m hm => by simpa using hm
    have q2 : ∀ m : List UInt8, l ≠ m → (m == l) = false := fun m hm => by simpa using fun e => hm e.symm
    simp [wPut, wKeys, wSum, wDel, wFlp, h0, Ne.symm h0, h1, Ne.symm h1, h2, Ne.symm h2, h3, Ne.symm h3, h4, Ne.symm h4, h5, Ne.symm h5, h6, Ne.symm h6, h7, Ne.symm h7, h8, Ne.symm h8, h9, Ne.symm h9, h10, Ne.symm h10, h11, Ne.symm h11, h12, Ne.symm h12, h13, Ne.symm h13, h14, Ne.symm h14, h15, Ne.symm h15, h16, Ne.symm h16]

def CmP (w : World) (e : Ending) (w' : World) : Prop := ∃ b c, e = .returned (.map (some b)) ∧ Below w.heap.size w w' ∧ CB w' b c formsW
set_option maxRecDepth 100000 in
set_option maxHeartbeats 20000000 in
theorem commandsC (w : World) :
    Calls Tryz.prog 14 #[] w fun e w' => CmP w e w' := by
  have hmm := @run_makeMap Tryz.prog
  have HE : Hid (allC = formsW) := hid (funext all_forms)
  go_enter Tryz.func14, Tryz.ntmps14
  go_wp2_with fail
  refine (changeC _ _).mono ?_
  rintro e v0 ⟨fn0, x0, y0, rfl, b0⟩
  have HV0 := hid ((startC w).1.below b0)
  have HR := hid ((startC w).2.st (Cst.below b0))
  clear b0
  go_wp2_with fail
  refine upon_cmd (k := ⟨#[112, 117, 116]⟩) (n := 1) HV0.out.cb (by decide) (by decide) [[0, 4, 5]] HR.out rfl ?_
  intro w0 cb0 g0 st0
  have HP0 := hid (HV0.out.put cb0 g0 st0)
  clear cb0 g0 st0 HV0
  go_wp2_with fail
  refine (changeC _ _).mono ?_
  rintro e v1 ⟨fn1, x1, y1, rfl, b1⟩
  have HV1 := hid (HP0.out.below b1)
  clear b1 HP0
  go_wp2_with fail
  refine upon_cmd (k := ⟨#[111, 110]⟩) (n := 1) HV1.out.cb (by decide) (by decide) [[0, 4]] HV1.out.r2 rfl ?_
  intro w1 cb1 g1 st1
  have HP1 := hid (HV1.out.put cb1 g1 st1)
  clear cb1 g1 st1 HV1
  go_wp2_with fail
  refine (changeC _ _).mono ?_
  rintro e v2 ⟨fn2, x2, y2, rfl, b2⟩
  have HV2 := hid (HP1.out.below b2)
  clear b2 HP1
  go_wp2_with fail
  refine upon_cmd (k := ⟨#[111, 102, 102]⟩) (n := 1) HV2.out.cb (by decide) (by decide) [[0, 4]] HV2.out.r2 rfl ?_
  intro w2 cb2 g2 st2
  have HP2 := hid (HV2.out.put cb2 g2 st2)
  clear cb2 g2 st2 HV2
  go_wp2_with fail
  refine (changeC _ _).mono ?_
  rintro e v3 ⟨fn3, x3, y3, rfl, b3⟩
  have HV3 := hid (HP2.out.below b3)
  clear b3 HP2
  go_wp2_with fail
  refine upon_cmd (k := ⟨#[114, 101, 109, 111, 118, 101]⟩) (n := 1) HV3.out.cb (by decide) (by decide) [[0, 4]] HV3.out.r2 rfl ?_
  intro w3 cb3 g3 st3
  have HP3 := hid (HV3.out.put cb3 g3 st3)
  clear cb3 g3 st3 HV3
  go_wp2_with fail
  refine upon_cmd (k := ⟨#[114, 101, 97, 100]⟩) (n := 1) HP3.out.cb (by decide) (by decide) [[0, 4]] HP3.out.r2 rfl ?_
  intro w4 cb4 g4 st4
  have HP4 := hid (HP3.out.put cb4 g4 st4)
  clear cb4 g4 st4 HP3
  go_wp2_with fail
  refine upon_cmd (k := ⟨#[102, 108, 97, 103]⟩) (n := 1) HP4.out.cb (by decide) (by decide) [[0, 4]] HP4.out.r2 rfl ?_
  intro w5 cb5 g5 st5
  have HP5 := hid (HP4.out.put cb5 g5 st5)
  clear cb5 g5 st5 HP4
  go_wp2_with fail
  obtain ⟨ka, kc, kA, iA, sA⟩ := fseg1 HP5.out.r1
  obtain ⟨la, lc, lA, jA, tA⟩ := fseg1 HP5.out.r2
  have bK := (Below.refl w5.heap.size w5).alloc (Nat.le_refl _) (.cells #[.slice (some ⟨w.heap.size + 1, 0, none⟩) 1 1, .slice (some ⟨w.heap.size + 1 + 1 + 1, 0, none⟩) 1 1] 37)
  have stK := Cst.below bK
  have HCC := hid (concatF w5.heap.size _ _ _ _ _ _ _ (by simp; rfl) (by simp; rfl) (stK _ _ _ kA) (stK _ _ _ lA) rfl rfl)
  have HQK := hid (HP5.out.below bK)
  clear HP5
  refine HCC.out.mono ?_
  rintro e vK ⟨hK, cK, rfl, oK, dK⟩
  have HVK := hid (HQK.out.below dK)
  have HFK := hid (fseg2 oK ((iA.st stK).st (Cst.below dK)) ((jA.st stK).st (Cst.below dK)) sA tA)
  clear HQK HCC oK dK stK bK kA lA iA jA sA tA
  go_wp2_with fail
  refine upon_cmd (k := ⟨#[107, 101, 121, 115]⟩) (n := 2) HVK.out.cb (by decide) (by decide) [[0], [0, 4]] HFK.out rfl ?_
  intro w6 cb6 g6 st6
  have HP6 := hid (HVK.out.put cb6 g6 st6)
  clear cb6 g6 st6 HVK
  go_wp2_with fail
  refine upon_cmd (k := ⟨#[115, 117, 109]⟩) (n := 1) HP6.out.cb (by decide) (by decide) [[0]] HP6.out.r1 rfl ?_
  intro w7 cb7 g7 st7
  have HP7 := hid (HP6.out.put cb7 g7 st7)
  clear cb7 g7 st7 HP6
  go_wp2_with fail
  refine (sayC _ _ _ _).mono ?_
  rintro e v8 ⟨fn8, x8, y8, rfl, b8⟩
  have HV8 := hid (HP7.out.below b8)
  clear b8 HP7
  go_wp2_with fail
  refine upon_cmd (k := ⟨#[104, 101, 108, 108, 111]⟩) (n := 1) HV8.out.cb (by decide) (by decide) [[0, 1]] HV8.out.r3 rfl ?_
  intro w8 cb8 g8 st8
  have HP8 := hid (HV8.out.put cb8 g8 st8)
  clear cb8 g8 st8 HV8
  go_wp2_with fail
  refine (sayC _ _ _ _).mono ?_
  rintro e v9 ⟨fn9, x9, y9, rfl, b9⟩
  have HV9 := hid (HP8.out.below b9)
  clear b9 HP8
  go_wp2_with fail
  refine upon_cmd (k := ⟨#[119, 104, 111, 108, 101]⟩) (n := 1) HV9.out.cb (by decide) (by decide) [[0, 1]] HV9.out.r3 rfl ?_
  intro w9 cb9 g9 st9
  have HP9 := hid (HV9.out.put cb9 g9 st9)
  clear cb9 g9 st9 HV9
  go_wp2_with fail
  refine upon_cmd (k := ⟨#[102, 108, 117, 115, 104]⟩) (n := 1) HP9.out.cb (by decide) (by decide) [[0, 1]] HP9.out.r3 rfl ?_
  intro w10 cb10 g10 st10
  have HP10 := hid (HP9.out.put cb10 g10 st10)
  clear cb10 g10 st10 HP9
  have HV11 := hid (HP10.out.below (belowTwo w10 (.cells #[.int .i64 0, .int .i64 1, .int .i64 2] 48) (.cells #[.slice (some ⟨w10.heap.size, 0, none⟩) 3 3] 43)))
  have HF11 : Hid (FSeg ((w10.alloc (.cells #[.int .i64 0, .int .i64 1, .int .i64 2] 48)).alloc (.cells #[.slice (some ⟨w10.heap.size, 0, none⟩) 3 3] 43)) (some ⟨w10.heap.size + 1, 0, none⟩) [[0, 1, 2]]) := hid (FSeg.made w10 [0, 1, 2] (by decide))
  clear HP10
  go_wp2_with fail
  refine upon_cmd (k := ⟨#[100, 101, 108, 105, 118, 101, 114]⟩) (n := 1) HV11.out.cb (by decide) (by decide) [[0, 1, 2]] HF11.out rfl ?_
  intro w11 cb11 g11 st11
  have HP11 := hid (HV11.out.put cb11 g11 st11)
  clear cb11 g11 st11 HV11
  go_wp2_with fail
  refine (onMessagesC _ _ _ _).mono ?_
  rintro e v12 ⟨fn12, x12, y12, rfl, b12⟩
  have HV12 := hid (HP11.out.below b12)
  clear b12 HP11
  go_wp2_with fail
  refine upon_cmd (k := ⟨#[100, 114, 111, 112]⟩) (n := 1) HV12.out.cb (by decide) (by decide) [[0, 1]] HV12.out.r3 rfl ?_
  intro w12 cb12 g12 st12
  have HP12 := hid (HV12.out.put cb12 g12 st12)
  clear cb12 g12 st12 HV12
  go_wp2_with fail
  refine (onMessagesC _ _ _ _).mono ?_
  rintro e v13 ⟨fn13, x13, y13, rfl, b13⟩
  have HV13 := hid (HP12.out.below b13)
  clear b13 HP12
  go_wp2_with fail
  refine upon_cmd (k := ⟨#[100, 117, 112]⟩) (n := 1) HV13.out.cb (by decide) (by decide) [[0, 1]] HV13.out.r3 rfl ?_
  intro w13 cb13 g13 st13
  have HP13 := hid (HV13.out.put cb13 g13 st13)
  clear cb13 g13 st13 HV13
  go_wp2_with fail
  refine (onMessagesC _ _ _ _).mono ?_
  rintro e v14 ⟨fn14, x14, y14, rfl, b14⟩
  have HV14 := hid (HP13.out.below b14)
  clear b14 HP13
  go_wp2_with fail
  refine upon_cmd (k := ⟨#[116, 117, 114, 110]⟩) (n := 1) HV14.out.cb (by decide) (by decide) [[0, 1]] HV14.out.r3 rfl ?_
  intro w14 cb14 g14 st14
  have HP14 := hid (HV14.out.put cb14 g14 st14)
  clear cb14 g14 st14 HV14
  have HV15 := hid (HP14.out.below (belowTwo w14 (.cells #[.int .i64 0, .int .i64 1, .int .i64 2, .int .i64 3] 48) (.cells #[.slice (some ⟨w14.heap.size, 0, none⟩) 4 4] 43)))
  have HF15 : Hid (FSeg ((w14.alloc (.cells #[.int .i64 0, .int .i64 1, .int .i64 2, .int .i64 3] 48)).alloc (.cells #[.slice (some ⟨w14.heap.size, 0, none⟩) 4 4] 43)) (some ⟨w14.heap.size + 1, 0, none⟩) [[0, 1, 2, 3]]) := hid (FSeg.made w14 [0, 1, 2, 3] (by decide))
  clear HP14
  go_wp2_with fail
  refine upon_cmd (k := ⟨#[102, 108, 105, 112]⟩) (n := 1) HV15.out.cb (by decide) (by decide) [[0, 1, 2, 3]] HF15.out rfl ?_
  intro w15 cb15 g15 st15
  have HP15 := hid (HV15.out.put cb15 g15 st15)
  clear cb15 g15 st15 HV15
  go_wp2_with fail
  refine upon_cmd (k := ⟨#[114, 101, 115, 101, 116]⟩) (n := 1) HP15.out.cb (by decide) (by decide) [[0, 1]] HP15.out.r3 rfl ?_
  intro w16 cb16 g16 st16
  have HP16 := hid (HP15.out.put cb16 g16 st16)
  clear cb16 g16 st16 HP15
  go_wp2_with fail
  go_ret
  exact ⟨_, _, rfl, HP16.out.low, by have h := HP16.out.cb; rw [← HE.out]; exact h⟩
end Go.Proofs.YtemfhnnkkmiamaaGreatDoor
