import Derived.Test.YthkppnmnjboiaaaDoorFn
namespace Go.Proofs.YthkppnmnjboiaaaDoor
open Go.ChangeShapes Go.WideShapes Go.ChangeAt Go.RowKit
set_option linter.unusedVariables false
set_option linter.unusedSimpArgs false
variable {W0 wr w' : World} {cb N p c : Nat} {F : Nat → Int} {R : Nat × Nat × List (Int × List Int)} {a : Option Addr} {fv : Value} {l : List Fx}

set_option maxRecDepth 100000 in
theorem run_append_mk (w : World) (m : Nat) (ty : TypeId) (h0 : 0 < m) (hm : m ≤ 4194304) : (Builtin.append_ #[22, 3] ty #[.slice none 0 0, .int .i64 (m : Int)]).run Tryd.prog w =
    .ok (.slice (some ⟨w.heap.size, 0, none⟩) m (grownCap w m 0 5)) (w.drew.alloc (.cells (Builtin.zeroCells #[.int .u8 0] m ++ Builtin.zeroCells #[.int .u8 0] (grownCap w m 0 5 - m)) 5)) := by
  obtain ⟨i0, hi, hz0, hz1, hz2⟩ := info_parts Tryd.infoByte
  have hn : m ≠ 0 := by omega
  have hw : IntKind.i64.wrap (m : Int) = (m : Int) := by rw [IntKind.wrap_i64]; omega
  have h63' : ¬ (9223372036854775807 < (m : Int)) := by omega
  have hneg : ¬ ((m : Int) < 0) := by omega
  have h48 : ¬ (281474976710656 < (m : Int)) := by omega
  have hp : ¬ ((m : Int) ≤ 0) := by omega
  have hmx : max (m : Int) 0 = (m : Int) := by omega
  have hA : (asInt (.int .i64 (m : Int))).run Tryd.prog w = .ok (m : Int) w := by first | rfl | simp [asInt, asIntOf]
  have h48' : ¬ (281474976710656 < Builtin.nextslicecap m 0) := by rw [nextslicecap_zero h0]; omega
  simp [Builtin.append_, run_underlying Tryd.underlying22, run_underlying Tryd.underlying3, sizeOf, typeInfo, zeroValue, hi, hz0, hz1, hz2, Builtin.lenOf, hn, hw, h63', hneg, h48, h48', Question.forced, run_firstCells_none, newRow, grownCap, hA, hp, hmx, Value.cells]
theorem wpList_app_mk {w : World} {ops : Array Oper} {rest : List Oper} {o : Oper} {a : Act} {Q : Exit → Act → World → Prop} (hgd : o.guard = none) (s x : Operand)
    (ho : o.op = .call { callee := .builtin .append, args := #[s, x], argTypes := #[22, 3] }) (m : Nat) (h0 : 0 < m) (hm : m ≤ 4194304) (hs : a.eval s = .slice none 0 0) (hx : a.eval x = .int .i64 (m : Int))
    (h : ∀ cap w', Hid (w'.ownsRow w.heap.size 5 1 (.slice (some ⟨w.heap.size, 0, none⟩) 0 cap) 0 []) → Hid (Below w.heap.size w w') → wpList Tryd.prog ops Q rest (a.put o.dst (.slice (some ⟨w.heap.size, 0, none⟩) m cap)) w') : wpList Tryd.prog ops Q (o :: rest) a w :=
  wpList_plain hgd fun _ hK => by
    unfold Oper.wp execOp
    simp only [ho, resolve, invoke, builtin, Sem.run_bind, Sem.run_pure, Result.andThen_ok, List.map_toArray, List.map_cons, List.map_nil, hs, hx, run_append_mk w m _ h0 hm]
    refine hK _ _ (h _ _ (hid ?_) (hid ?_))
    · refine World.ownsRow_made (base := w.heap.size) (e := 5) (size := 1) w.drew _ _ (Nat.le_refl _) (grownCap_le_maxLen w m 0 _ (by unfold maxLen; omega)) ?_
      have := grownCap_ge w m 0 5
      simp [size_zeroCells]; omega
    · exact (Below.refl _ _).drew.alloc (Nat.le_refl _) _

set_option maxRecDepth 100000 in
set_option maxHeartbeats 1000000 in
theorem growC (m : Nat) (w : World) (hm : m ≤ 4194304) :
    Calls Tryd.prog 25 #[.slice none 0 0, .int .i64 (m : Int)] w fun e w' => ∃ v, e = .returned v ∧ w'.ownsRow w.heap.size 5 1 v 0 [] ∧ Below w.heap.size w w' := by
  by_cases h0 : m = 0
  · subst h0
    have HO : Hid (w.ownsRow w.heap.size 5 1 (.slice none 0 0) 0 []) := hid (World.ownsRow_nil _ _ _ _)
    go_enter Tryd.func25, Tryd.ntmps25
    go_wp2_with fail
    go_ret
    exact ⟨_, rfl, HO.out, Below.refl _ _⟩
  · have d0 : decide ((m : Int) < 0) = false := by simp
    have d1 : decide ((0 : Int) < (m : Int)) = true := by simp; omega
    go_enter Tryd.func25, Tryd.ntmps25
    go_wp2_with (at_builtin; refine wpList_app_mk rfl _ _ rfl m ?c1 hm rfl ?c2 ?_)
    case c1 => omega
    case c2 => first | rfl | (simp; done)
    intro cap w1 HO HB
    have h1 : (0 : Int) ≤ (m : Int) := Int.natCast_nonneg _
    go_wp2_with fail
    go_ret
    exact ⟨_, rfl, HO.out, HB.out⟩

set_option maxRecDepth 100000 in
set_option maxHeartbeats 2000000 in
theorem concatG (g : Nat) (a1 : Option Addr) (n1 c1 : Nat) (a2 : Option Addr) (n2 c2 : Nat) (f1 f2 : Nat → Int) (w : World) (hn1 : n1 ≤ 2097152) (hn2 : n2 ≤ 2097152) (h0 : w.cell? ⟨g, 0, none⟩ = some (.slice a1 n1 c1)) (h1 : w.cell? ⟨g, 1, none⟩ = some (.slice a2 n2 c2)) (hg : g < w.heap.size) (s1 : Seg w a1 n1 f1) (s2 : Seg w a2 n2 f2) :
    Calls Tryd.prog 16 #[.slice (some ⟨g, 0, none⟩) 2 2] w fun e w' => ∃ v, e = .returned v ∧ Own w' w.heap.size v (payl f1 n1 ++ payl f2 n2) ∧ Below w.heap.size w w' := by
  obtain ⟨i0, hi, hz0, hz1, hz2⟩ := info_parts Tryd.infoByte
  have d1 : decide ((n1 : Int) < 0) = false := by simp
  have d2 : decide ((n1 : Int) + (n2 : Int) < 0) = false := by simp; omega
  have e2 : IntKind.i64.wrap ((n1 : Int) + (n2 : Int)) = (n1 : Int) + (n2 : Int) := by rw [IntKind.wrap_i64]; omega
  have HG := hid (growC (n1 + n2) w (by omega))
  rw [show ((n1 + n2 : Nat) : Int) = (n1 : Int) + (n2 : Int) by push_cast; rfl] at HG
  have HS1 := hid s1
  have HS2 := hid s2
  clear s1 s2
  go_enter Tryd.func16, Tryd.ntmps16
  go_wp2_with fail
  refine wp_loop_rounds 3 ?_
  rw [rounds_succ]
  go_wp2_with fail
  rw [rounds_succ]
  go_wp2_with fail
  rw [rounds_succ]
  go_wp2_with fail
  refine HG.out.mono ?_
  rintro e w1 ⟨v1, rfl, o1, b1⟩
  have k0 := (b1.cell (p := ⟨g, 0, none⟩) hg).trans h0
  have k1 := (b1.cell (p := ⟨g, 1, none⟩) hg).trans h1
  have HB1 := hid b1
  have HO1 := hid o1
  have HT1 := hid (HS1.out.below b1)
  have HT2 := hid (HS2.out.below b1)
  clear b1 h0 h1 HG
  clear o1
  go_wp2_with fail
  refine wp_loop_rounds 3 ?_
  rw [rounds_succ]
  go_wp2_with (at_builtin; refine wpList_app_sg rfl _ _ rfl w.heap.size _ _ _ rfl HO1.out a1 n1 c1 f1 rfl HT1.out ?x3 ?x4 ?x5 ?_)
  case x3 => unfold maxLen; omega
  case x4 => omega
  case x5 => exact HB1.out.size
  intro v2 w2 hown2 hgr2 hloc2
  have HO2 : Hid (w2.ownsRow w.heap.size 5 1 v2 n1 (cells8 f1 n1)) := hid (by first | exact hown2 | (simpa using hown2))
  have b2 : Below w.heap.size w w2 := HB1.out.grown hgr2 HB1.out.size (fun q hq => (World.ownsRow.lt HO1.out q hq).1)
  have HB2 := hid b2
  have HT22 := hid (HS2.out.below b2)
  have hk := fun i => World.cell?_of_block (a := ⟨g, i, none⟩) (hgr2.block g (Nat.lt_of_lt_of_le hg HB1.out.size) (fun e => by have := (World.ownsRow.lt HO1.out g e.symm).1; omega))
  have m1 := (hk 1).trans k1
  clear hown2 hgr2 hloc2 b2 k0 k1 hk
  go_wp2_with fail
  rw [rounds_succ]
  go_wp2_with (at_builtin; refine wpList_app_sg rfl _ _ rfl w.heap.size _ _ _ rfl HO2.out a2 n2 c2 f2 rfl HT22.out ?y3 ?y4 ?y5 ?_)
  case y3 => unfold maxLen; omega
  case y4 => omega
  case y5 => exact HB2.out.size
  intro v3 w3 hown3 hgr3 hloc3
  have HO3 : Hid (Own w3 w.heap.size v3 (payl f1 n1 ++ payl f2 n2)) := by
    unfold Own
    rw [List.length_append, List.map_append, payl_len, payl_len]
    have e1 : (payl f1 n1).map (Value.int .u8) = cells8 f1 n1 := by simp [payl, cells8]
    have e2 : (payl f2 n2).map (Value.int .u8) = cells8 f2 n2 := by simp [payl, cells8]
    rw [e1, e2]
    exact hid hown3
  have HB3 := hid (HB2.out.grown hgr3 HB2.out.size (fun q hq => (World.ownsRow.lt HO2.out q hq).1))
  clear hown3 hgr3 hloc3
  go_wp2_with fail
  rw [rounds_succ]
  go_wp2_with fail
  go_ret
  exact ⟨_, rfl, HO3.out, HB3.out⟩

theorem concatC (g g1 n1 c1 g2 n2 c2 : Nat) (f1 f2 : Nat → Int) (w : World) (hn1 : n1 ≤ 2097152) (hn2 : n2 ≤ 2097152) (h0 : w.cell? ⟨g, 0, none⟩ = some (.slice (some ⟨g1, 0, none⟩) n1 c1)) (h1 : w.cell? ⟨g, 1, none⟩ = some (.slice (some ⟨g2, 0, none⟩) n2 c2)) (hg : g < w.heap.size) (s1 : Seg w (some ⟨g1, 0, none⟩) n1 f1) (s2 : Seg w (some ⟨g2, 0, none⟩) n2 f2) :
    Calls Tryd.prog 16 #[.slice (some ⟨g, 0, none⟩) 2 2] w fun e w' => ∃ v, e = .returned v ∧ Own w' w.heap.size v (payl f1 n1 ++ payl f2 n2) ∧ Below w.heap.size w w' :=
  concatG g (some ⟨g1, 0, none⟩) n1 c1 (some ⟨g2, 0, none⟩) n2 c2 f1 f2 w hn1 hn2 h0 h1 hg s1 s2

set_option maxRecDepth 100000 in
set_option maxHeartbeats 1000000 in
theorem bytesEqC (b1 o1 b2 o2 L q1 q2 : Nat) (f g : Nat → Int) (r : Bool) (w : World) (hf : Byt f) (hg : Byt g) (hc : ∀ i, i < L → w.cell? ⟨b1, o1 + i, none⟩ = some (.int .u8 (f i))) (hc' : ∀ i, i < L → w.cell? ⟨b2, o2 + i, none⟩ = some (.int .u8 (g i))) (hr : (∀ i, i < L → f i = g i) ↔ r = true) :
    Calls Tryd.prog 46 #[.slice (some ⟨b1, o1, none⟩) L q1, .slice (some ⟨b2, o2, none⟩) L q2] w fun e w' => e = .returned (.bool r) ∧ w' = w := by
  have v1 := fun cap => strG_conv (b := b1) (off := o1) (L := L) (cap := cap) (w := w) 0 hf (fun i hi => by have := hc i hi; rw [Nat.zero_add]; exact this)
  have v2 := fun cap => strG_conv (b := b2) (off := o2) (L := L) (cap := cap) (w := w) 0 hg (fun i hi => by have := hc' i hi; rw [Nat.zero_add]; exact this)
  have hq := strG_eq (p := 0) (q := 0) (L := L) (M := L) hf hg
  obtain ⟨S1, hS1⟩ : ∃ S1, strG f 0 L = S1 := ⟨_, rfl⟩
  obtain ⟨S2, hS2⟩ : ∃ S2, strG g 0 L = S2 := ⟨_, rfl⟩
  rw [hS1] at v1 hq
  rw [hS2] at v2 hq
  clear hS1 hS2 hc hc'
  by_cases he : S1 = S2
  · have hrr : r = true := hr.1 (fun i hi => by have := (hq.1 he).2 i hi; simpa using this)
    have hd : (S1.toList == S2.toList) = true := by rw [he]; simp
    have HR := hid hrr
    rw [hrr]
    clear he hq hr hrr
    go_enter Tryd.func46, Tryd.ntmps46
    go_wp2_with fail
    go_ret
    exact ⟨rfl, rfl⟩
  · have hrr : r = false := by
      cases r with
      | false => rfl
      | true => exact absurd (hq.2 ⟨rfl, fun i hi => by have := (hr.2 rfl) i hi; simpa using this⟩) he
    have hd : (S1.toList == S2.toList) = false := by
      have : S1.toList ≠ S2.toList := fun e => he (by
        cases S1; cases S2; simp [ByteArray.toList_eq] at e ⊢; first | exact e | (ext1; simpa using e))
      simpa using this
    rw [hrr]
    clear he hq hr hrr
    go_enter Tryd.func46, Tryd.ntmps46
    go_wp2_with fail
    go_ret
    exact ⟨rfl, rfl⟩
end Go.Proofs.YthkppnmnjboiaaaDoor
