import Derived.Test.YtemfhnnkkmiamaaGreatDoorPcb
import Derived.Laws.BytesArg
import Derived.Laws.Concat
import Derived.Deep.RegionHeld3
namespace Go.Proofs.YtemfhnnkkmiamaaGreatDoor
open Go.ChangeShapes Go.WideShapes Go.ChangeAt Go.RowKit
set_option linter.unusedVariables false
set_option linter.unusedSimpArgs false

theorem take1 {P : Program} {ops : Array Oper} {Q : Exit → Act → World → Prop} {md : Region.Mode} {S : World → Prop} {i : Nat} {d : Option Tmp} {v : Value} {fuel : Nat} {listed : Array Bool} {a : Act} {w : World}
    (hd : ops[i]?.map (fun o => o.dst) = some d) (hs : Region.noSelect ops = true) (hf : Region.free md ops listed i = true) (hr : (Region.ready md ops listed).contains i = true)
    (hQ : ∀ c a w, Q (.panic c) (a.put d v) w → Q (.panic c) a w) (hy : ∀ o, ops[i]? = some o → YieldsIf P ops S o v a) (hS : S w)
    (h : wpAnyH P md ops Q S fuel (listed.setIfInBounds i true) (a.put d v) w) : wpAnyH P md ops Q S (fuel + 1) listed a w := by
  obtain ⟨o, ho, rfl⟩ := Option.map_eq_some_iff.1 hd
  exact wpAnyH_take ho hs hf hr hQ (hy o ho) hS h

theorem call1 {P : Program} {ops : Array Oper} {Q : Exit → Act → World → Prop} {md : Region.Mode} {S : World → Prop} {i : Nat} {d : Option Tmp} {fuel : Nat} {listed : Array Bool} {a : Act} {w : World}
    (hd : ops[i]?.map (fun o => o.dst) = some d) (hr : Region.ready md ops listed = [i])
    (h : ∀ o, ops[i]? = some o → o.dst = d → ∀ K' : Act → World → Prop, Shut (∀ a w, S w → (S w → wpAnyH P md ops Q S fuel (listed.setIfInBounds i true) a w) → K' a w) → if Region.wanted o (yielded ops a.tmps) = true then Oper.wp P o a w K' Q else K' (a.put o.dst undef) w) :
    wpAnyH P md ops Q S (fuel + 1) listed a w := by
  obtain ⟨o, ho, hod⟩ := Option.map_eq_some_iff.1 hd
  exact wpAnyH_ready hr (by simp) (AllReadyH.cons ho (h o ho hod) AllReadyH.nil)

theorem wrapIn (x : Int) (h0 : -9223372036854775808 ≤ x) (h1 : x ≤ 9223372036854775807) : IntKind.i64.wrap x = x := by
  rw [IntKind.wrap_i64]; omega
theorem ready2 {P : Program} {ops : Array Oper} {Q : Exit → Act → World → Prop} {md : Region.Mode} {S : World → Prop} {i j : Nat} {d d' : Option Tmp} {fuel : Nat} {listed : Array Bool} {a : Act} {w : World}
    (hd : ops[i]?.map (fun o => o.dst) = some d) (hd' : ops[j]?.map (fun o => o.dst) = some d') (hr : Region.ready md ops listed = [i, j])
    (h : ∀ o, ops[i]? = some o → o.dst = d → ∀ K' : Act → World → Prop, Shut (∀ a w, S w → (S w → wpAnyH P md ops Q S fuel (listed.setIfInBounds i true) a w) → K' a w) → if Region.wanted o (yielded ops a.tmps) = true then Oper.wp P o a w K' Q else K' (a.put o.dst undef) w)
    (h' : ∀ o, ops[j]? = some o → o.dst = d' → ∀ K' : Act → World → Prop, Shut (∀ a w, S w → (S w → wpAnyH P md ops Q S fuel (listed.setIfInBounds j true) a w) → K' a w) → if Region.wanted o (yielded ops a.tmps) = true then Oper.wp P o a w K' Q else K' (a.put o.dst undef) w) :
    wpAnyH P md ops Q S (fuel + 1) listed a w := by
  obtain ⟨o, ho, hod⟩ := Option.map_eq_some_iff.1 hd
  obtain ⟨o', ho', hod'⟩ := Option.map_eq_some_iff.1 hd'
  exact wpAnyH_ready hr (by simp) (AllReadyH.cons ho (h o ho hod) (AllReadyH.cons ho' (h' o' ho' hod') AllReadyH.nil))

def digF : Nat → Nat → ByteArray → ByteArray
  | 0, _, s => s
  | n + 1, k, s => if k = 0 then s else digF n (k / 10) (strOfNums [48 + (k : Int) % 10] ++ s)
def mkT (k : Nat) : ByteArray := if k = 0 then ⟨#[109, 48]⟩ else ⟨#[109]⟩ ++ digF k k ByteArray.empty
theorem digF_zero {n : Nat} {s : ByteArray} : digF n 0 s = s := by cases n <;> simp [digF]
theorem digF_step {n k : Nat} {s : ByteArray} (hk : 0 < k) (hn : k ≤ n) : digF n k s = digF (n - 1) (k / 10) (strOfNums [48 + (k : Int) % 10] ++ s) := by
  obtain ⟨m, rfl⟩ : ∃ m, n = m + 1 := ⟨n - 1, by omega⟩
  simp only [digF, Nat.add_sub_cancel]; rw [if_neg (by omega)]
set_option maxRecDepth 100000 in
set_option maxHeartbeats 1000000 in
theorem markTextC (k : Nat) (w : World) (hk : k ≤ 10000000000000) :
    Calls Tryz.prog 38 #[.int .i64 (k : Int)] w fun e w' => e = .returned (.string (mkT k)) ∧ Below w.heap.size w w' := by
  by_cases h0 : k = 0
  · subst h0
    go_enter Tryz.func38, Tryz.ntmps38
    go_wp2_with fail
    go_ret
    exact ⟨rfl, Below.refl _ _⟩
  · have d0 : decide ((k : Int) ≤ 0) = false := by simp; omega
    have d1 : decide (k ≤ 0) = false := by simp; omega
    go_enter Tryz.func38, Tryz.ntmps38
    go_wp2_with fail
    go_loopw [0, 3] (fun q s wr => ∃ (j n : Nat) (t : ByteArray), j ≤ n ∧ j ≤ k ∧ q = .int .i64 (j : Int) ∧ s = .string t ∧ Hid (digF k k ByteArray.empty = digF n j t) ∧ t.size + n ≤ 10000000000000 + 1 ∧ Hid (Below w.heap.size w wr)) (fun q _ _ => (intOf q).toNat)
    case atStart => exact ⟨k, k, ByteArray.empty, Nat.le_refl _, Nat.le_refl _, rfl, rfl, hid rfl, by simp; omega, hid (Below.refl _ _)⟩
    case round =>
      obtain ⟨j, n, t, hj, hjk, rfl, rfl, HE, hts, HB⟩ := hrel
      by_cases hp : 0 < j
      · have p1 : decide (0 < (j : Int)) = true := by simp; omega
        have p2 : decide (0 < j) = true := by simp; omega
        have hcv := run_convert_bytes_arg (P := Tryz.prog) (wr.alloc (.cells #[.int .u8 (48 + (j : Int) % 10)] 5)) 93 5 Tryz.underlying93 Tryz.underlying5 wr.heap.size 0 1 1 [48 + (j : Int) % 10] rfl (fun i hi => by (obtain rfl : i = 0 := (by omega)); simp) 9 Tryz.underlying9
        have hsz := strOfNums_size [48 + (j : Int) % 10]
        have HE2 : Hid (digF k k ByteArray.empty = digF (n - 1) (j / 10) (strOfNums [48 + (j : Int) % 10] ++ t)) := hid (by rw [HE.out, digF_step hp hj])
        obtain ⟨D, hD⟩ : ∃ D, strOfNums [48 + (j : Int) % 10] = D := ⟨_, rfl⟩
        rw [hD] at hcv hsz HE2
        have hsz1 : D.size = 1 := hsz
        obtain ⟨m, hm⟩ : ∃ m, j / 10 = m := ⟨_, rfl⟩
        have hq : IntKind.i64.wrap ((j : Int).tdiv 10) = (m : Int) := by rw [IntKind.wrap_i64, Int.tdiv_eq_ediv_of_nonneg (by omega)]; omega
        rw [hm] at HE2
        have hmj : m < j := by omega
        have HMJ := hid hm
        clear hm
        have hadd := fun w => run_string_add_sum (P := Tryz.prog) (w := w) D t (by omega)
        have HB2 := hid (HB.out.alloc HB.out.size (.cells #[.int .u8 (48 + (j : Int) % 10)] 5))
        clear hD hsz
        go_wp2_with fail
        go_roundw
        case rel => exact ⟨m, n - 1, D ++ t, by omega, by omega, by have := HMJ.out; congr 1; omega, rfl, HE2, by rw [ByteArray.size_append]; omega, HB2⟩
        case measure => simp [intOf]; omega
      · obtain rfl : j = 0 := by omega
        have HT : Hid (mkT k = ⟨#[109]⟩ ++ t) := hid (by unfold mkT; rw [if_neg h0, HE.out, digF_zero])
        have hadd := fun w => run_string_add_sum (P := Tryz.prog) (w := w) ⟨#[109]⟩ t (by have : (⟨#[109]⟩ : ByteArray).size = 1 := rfl; omega)
        go_wp2_with fail
        go_ret
        exact ⟨by rw [HT.out]; rfl, HB.out⟩
theorem heap_set_same {w : World} {g i : Nat} {cur : Array Value} {t : TypeId} {f : Nat × Nat} {u : Value} (h : w.heap[g]? = some (.cells cur t f)) : (w.setCell ⟨g, i, none⟩ u).heap[g]? = some (.cells (cur.setIfInBounds i u) t f) := by
  simp [World.setCell, Array.getElem?_modify, h]

def Wr (w : World) (g : Nat) (t : TypeId) (n : Nat) (C : Nat → Value) : Prop := ∃ cur, w.heap[g]? = some (.cells cur t (0, 0)) ∧ n ≤ cur.size ∧ ∀ i, i < n → cur[i]? = some (C i)
theorem Wr.cell {w : World} {g n : Nat} {t : TypeId} {C : Nat → Value} (h : Wr w g t n C) {i : Nat} (hi : i < n) : w.cell? ⟨g, i, none⟩ = some (C i) := by
  obtain ⟨cur, h1, h2, h3⟩ := h
  simp [World.cell?, h1, h3 i hi]
theorem Wr.frozen {w : World} {g n : Nat} {t : TypeId} {C : Nat → Value} (h : Wr w g t n C) (i : Nat) : w.frozen? ⟨g, i, none⟩ = false := by
  obtain ⟨cur, h1, h2, h3⟩ := h
  simp [World.frozen?, h1]
theorem Wr.set {w : World} {g n : Nat} {t : TypeId} {C : Nat → Value} (h : Wr w g t n C) (i : Nat) (u : Value) : Wr (w.setCell ⟨g, i, none⟩ u) g t n (fun j => if j = i then u else C j) := by
  obtain ⟨cur, h1, h2, h3⟩ := h
  refine ⟨_, heap_set_same h1, by simpa using h2, fun j hj => ?_⟩
  rw [Array.getElem?_setIfInBounds]
  by_cases e : i = j
  · subst e; rw [if_pos rfl, if_pos (by omega)]; simp
  · rw [if_neg e]; show cur[j]? = some (if j = i then u else C j); rw [if_neg (Ne.symm e)]; exact h3 j hj
theorem Wr.same {w w' : World} {g n : Nat} {t : TypeId} {C : Nat → Value} (h : Wr w g t n C) (e : w'.heap[g]? = w.heap[g]?) : Wr w' g t n C := by
  obtain ⟨cur, h1, r⟩ := h; exact ⟨cur, e.trans h1, r⟩
theorem Wr.ext {w : World} {g n : Nat} {t : TypeId} {C C' : Nat → Value} (h : Wr w g t n C) (e : ∀ i, i < n → C i = C' i) : Wr w g t n C' := by
  obtain ⟨cur, h1, h2, h3⟩ := h; exact ⟨cur, h1, h2, fun i hi => by rw [← e i hi]; exact h3 i hi⟩
theorem Wr.lt {w : World} {g n : Nat} {t : TypeId} {C : Nat → Value} (h : Wr w g t n C) : g < w.heap.size := by
  obtain ⟨cur, h1, _⟩ := h; exact (Array.getElem?_eq_some_iff.1 h1).1
theorem grown_set {w w' : World} {g : Nat} (h : w.grownBy w' (some g)) (i : Nat) (u : Value) : w.grownBy (w'.setCell ⟨g, i, none⟩ u) (some g) :=
  ⟨h.os, h.tape, h.output, by simpa [World.setCell] using h.size, fun k hk hne => (Below.heap_setCell _ _ _ _ (fun e => hne (by rw [e]))).trans (h.block k hk hne)⟩
theorem grown_below {w w1 w' : World} {g : Nat} (h : w.grownBy w1 (some g)) (hb : Below w1.heap.size w1 w') : w.grownBy w' (some g) :=
  ⟨hb.os.trans h.os, hb.tape.trans h.tape, hb.output.trans h.output, Nat.le_trans h.size hb.size, fun k hk hne => (hb.block k (Nat.lt_of_lt_of_le hk h.size)).trans (h.block k hk hne)⟩
theorem grown_refl {w : World} (r : Option Nat) : w.grownBy w r := ⟨rfl, rfl, rfl, Nat.le_refl _, fun _ _ _ => rfl⟩
set_option maxRecDepth 100000 in
set_option maxHeartbeats 1000000 in
theorem markStrings (g n c k0 : Nat) (C : Nat → Value) (w : World) (hk : k0 + n ≤ 10000000000000) (h : Wr w g 9 n C) :
    Calls Tryz.prog 17 #[.slice (some ⟨g, 0, none⟩) n c, .int .i64 (k0 : Int)] w fun e w' => e = .returned (.int .i64 ((k0 + n : Nat) : Int)) ∧ w.grownBy w' (some g) ∧ Wr w' g 9 n (fun i => .string (mkT (k0 + i))) := by
  have HW := hid h
  clear h
  go_enter Tryz.func17, Tryz.ntmps17
  go_wp2_with fail
  go_loopw [1, 5] (fun q i wr => ∃ (j m : Nat), j ≤ n ∧ m = k0 + j ∧ i = .int .i64 (j : Int) ∧ q = .int .i64 (m : Int) ∧ Hid (w.grownBy wr (some g)) ∧ Hid (Wr wr g 9 n (fun t => if t < j then .string (mkT (k0 + t)) else C t))) (fun _ i _ => n - (intOf i).toNat)
  case atStart => exact ⟨0, k0, Nat.zero_le _, rfl, rfl, rfl, hid (grown_refl _), hid (HW.out.ext fun i _ => by simp)⟩
  case round =>
    obtain ⟨j, m, hj, hm, rfl, rfl, HG, HC⟩ := hrel
    by_cases hlt : j < n
    · have i1 : (0 : Int) ≤ (j : Int) := Int.natCast_nonneg _
      have i2 : (j : Int) < (n : Int) := by omega
      have HT := hid (markTextC m wr (by omega))
      have HM := hid hm
      obtain ⟨s, hs⟩ : ∃ s, mkT m = s := ⟨_, rfl⟩
      rw [hs] at HT
      have HS := hid hs
      clear hs hm
      go_wp2_with fail
      refine HT.out.mono ?_
      rintro e w1 ⟨rfl, b1⟩
      have W1 := HC.out.same (b1.block g HC.out.lt)
      have c0 := W1.cell hlt
      have f0 := W1.frozen j
      rw [if_neg (by omega)] at c0
      have HG1 := hid (grown_set (grown_below HG.out b1) j (.string s))
      have HC1 := hid (W1.set j (.string s))
      have hm1 : (m : Int) + 1 ≤ 9223372036854775807 := by have := HM.out; omega
      clear b1 HT W1
      obtain ⟨v0, hv0⟩ : ∃ v0, C j = v0 := ⟨_, rfl⟩
      rw [hv0] at c0
      clear hv0
      go_wp2_with fail
      go_roundw
      case rel =>
        refine ⟨j + 1, m + 1, hlt, by have := HM.out; omega, by go_num, by go_num, HG1, hid (HC1.out.ext fun i hi => ?_)⟩
        by_cases e : i = j
        · subst e; rw [if_pos rfl, if_pos (by omega), ← HS.out, HM.out]
        · rw [if_neg e]
          by_cases e2 : i < j
          · rw [if_pos e2, if_pos (by omega)]
          · rw [if_neg e2, if_neg (by omega)]
      case measure => simp [intOf]; omega
    · obtain rfl : j = n := by omega
      have HC1 := hid (HC.out.ext (C' := fun i => .string (mkT (k0 + i))) fun i hi => if_pos hi)
      have HM := hid hm
      clear hm HC
      go_wp2_with fail
      go_ret
      exact ⟨by rw [← HM.out]; rfl, HG.out, HC1.out⟩
set_option maxRecDepth 100000 in
set_option maxHeartbeats 1000000 in
theorem heldStrings (g n c k0 : Nat) (w : World) (hk : k0 + n ≤ 10000000000) (hn : n ≤ 4194304) (h : Wr w g 9 n (fun i => .string (mkT (k0 + i)))) :
    Calls Tryz.prog 18 #[.slice (some ⟨g, 0, none⟩) n c, .int .i64 (k0 : Int)] w fun e w' => e = .returned (.int .i64 ((k0 + n : Nat) : Int)) ∧ Below w.heap.size w w' := by
  have HW := hid h
  clear h
  go_enter Tryz.func18, Tryz.ntmps18
  go_wp2_with fail
  go_loopw [1, 5] (fun q i wr => ∃ (j m : Nat), j ≤ n ∧ m ≤ 10000000000 ∧ Hid (m = k0 + j) ∧ i = .int .i64 (j : Int) ∧ q = .int .i64 (m : Int) ∧ Hid (Below w.heap.size w wr)) (fun _ i _ => n - (intOf i).toNat)
  case atStart => exact ⟨0, k0, Nat.zero_le _, by omega, hid (by omega), rfl, rfl, hid (Below.refl _ _)⟩
  case round =>
    obtain ⟨j, m, hj, hm, HM, rfl, rfl, HB⟩ := hrel
    by_cases hlt : j < n
    · have i1 : (0 : Int) ≤ (j : Int) := Int.natCast_nonneg _
      have i2 : (j : Int) < (n : Int) := by omega
      have W1 := HW.out.same (HB.out.block g HW.out.lt)
      have zg : g < wr.heap.size := W1.lt
      have c0 := W1.cell (i := j) hlt
      have e0 : mkT (k0 + j) = mkT m := by rw [HM.out]
      rw [e0] at c0
      obtain ⟨s, hs⟩ : ∃ s, mkT m = s := ⟨_, rfl⟩
      rw [hs] at c0
      have HT : Hid (∀ w1, Calls Tryz.prog 38 #[.int .i64 (m : Int)] w1 fun e w' => e = .returned (.string s) ∧ Below w1.heap.size w1 w') := hid (fun w1 => by rw [← hs]; exact markTextC m w1 (by omega))
      have hss : (s.toList == s.toList) = true := by simp
      clear hs e0 W1
      go_wp2_with fail
      have HCS : Hid (∀ w', Below wr.heap.size wr w' → (Below wr.heap.size wr w' ∧ w'.cell? ⟨g, j, none⟩ = some (.string s))) := hid (fun w' hB => ⟨hB, (hB.cell (p := ⟨g, _, none⟩) zg).trans c0⟩)
      refine wp_region_held_drew (S := fun w' => Below wr.heap.size wr w' ∧ w'.cell? ⟨g, j, none⟩ = some (.string s)) (by kernel_rfl) (HCS.out _ (Below.refl _ _).drew) (fun hHeld => ?_)
      refine take1 (i := 0) (d := some 12) (v := ?_) (by kernel_rfl) (by kernel_rfl) (by kernel_rfl) (by kernel_rfl) (fun _ _ _ h => h) ?_ hHeld ?_
      rotate_left
      · (intro o ho; simp only [List.getElem?_toArray, List.getElem?_cons_succ, List.getElem?_cons_zero, Option.some.injEq] at ho; subst ho; refine Or.inl ⟨by rfl, ?_⟩; intro w hSw; (try dsimp only at hSw); go_simp; try with_reducible rfl)
      try simp only [Act.put, List.setIfInBounds_toArray, List.set_cons_zero, List.set_cons_succ]
      refine take1 (i := 1) (d := some 13) (v := ?_) (by kernel_rfl) (by kernel_rfl) (by kernel_rfl) (by kernel_rfl) (fun _ _ _ h => h) ?_ hHeld ?_
      rotate_left
      · (intro o ho; simp only [List.getElem?_toArray, List.getElem?_cons_succ, List.getElem?_cons_zero, Option.some.injEq] at ho; subst ho; refine Or.inl ⟨by rfl, ?_⟩; intro w hSw; (try dsimp only at hSw); go_simp; try with_reducible rfl)
      try simp only [Act.put, List.setIfInBounds_toArray, List.set_cons_zero, List.set_cons_succ]
      refine take1 (i := 2) (d := some 14) (v := ?_) (by kernel_rfl) (by kernel_rfl) (by kernel_rfl) (by kernel_rfl) (fun _ _ _ h => h) ?_ hHeld ?_
      rotate_left
      · (intro o ho; simp only [List.getElem?_toArray, List.getElem?_cons_succ, List.getElem?_cons_zero, Option.some.injEq] at ho; subst ho; refine Or.inl ⟨by rfl, ?_⟩; intro w hSw; (try dsimp only at hSw); go_simp; try with_reducible rfl)
      try simp only [Act.put, List.setIfInBounds_toArray, List.set_cons_zero, List.set_cons_succ]
      refine take1 (i := 3) (d := some 15) (v := ?_) (by kernel_rfl) (by kernel_rfl) (by kernel_rfl) (by kernel_rfl) (fun _ _ _ h => h) ?_ hHeld ?_
      rotate_left
      · (intro o ho; simp only [List.getElem?_toArray, List.getElem?_cons_succ, List.getElem?_cons_zero, Option.some.injEq] at ho; subst ho; refine Or.inl ⟨by rfl, ?_⟩; intro w hSw; (try dsimp only at hSw); go_simp; try with_reducible rfl)
      try simp only [Act.put, List.setIfInBounds_toArray, List.set_cons_zero, List.set_cons_succ]
      refine take1 (i := 4) (d := some 16) (v := ?_) (by kernel_rfl) (by kernel_rfl) (by kernel_rfl) (by kernel_rfl) (fun _ _ _ h => h) ?_ hHeld ?_
      rotate_left
      · (intro o ho; simp only [List.getElem?_toArray, List.getElem?_cons_succ, List.getElem?_cons_zero, Option.some.injEq] at ho; subst ho; refine Or.inl ⟨by rfl, ?_⟩; intro w hSw; (try dsimp only at hSw); go_simp; try with_reducible rfl)
      try simp only [Act.put, List.setIfInBounds_toArray, List.set_cons_zero, List.set_cons_succ]
      refine call1 (i := 5) (d := some 17) (by kernel_rfl) (by kernel_rfl) ?_
      intro o ho hod K hK; simp only [List.getElem?_toArray, List.getElem?_cons_succ, List.getElem?_cons_zero, Option.some.injEq] at ho; subst ho
      go_simp
      refine (HT.out _).mono ?_
      rintro e w2 ⟨rfl, b2⟩
      have hB := keepS hHeld.1 b2
      refine hK.out _ _ (HCS.out _ hB) (fun hHeld => ?_)
      clear hK K
      try simp only [Act.put, List.setIfInBounds_toArray, List.set_cons_zero, List.set_cons_succ]
      refine take1 (i := 6) (d := some 18) (v := ?_) (by kernel_rfl) (by kernel_rfl) (by kernel_rfl) (by kernel_rfl) (fun _ _ _ h => h) ?_ hHeld ?_
      rotate_left
      · (intro o ho; simp only [List.getElem?_toArray, List.getElem?_cons_succ, List.getElem?_cons_zero, Option.some.injEq] at ho; subst ho; refine Or.inl ⟨by rfl, ?_⟩; intro w hSw; (try dsimp only at hSw); go_simp; try with_reducible rfl)
      try simp only [Act.put, List.setIfInBounds_toArray, List.set_cons_zero, List.set_cons_succ]
      refine wpAnyH_done (by kernel_rfl) ?_ _
      have HZ := hid (HB.out.trans (hB.mono HB.out.size))
      clear hHeld hB b2
      go_wp2_with fail
      go_roundw
      case rel => exact ⟨j + 1, m + 1, hlt, by have := HM.out; omega, hid (by have := HM.out; omega), by go_num, by go_num, HZ⟩
      case measure => simp [intOf]; omega
    · obtain rfl : j = n := by omega
      go_wp2_with fail
      go_ret
      exact ⟨by rw [← HM.out]; rfl, HB.out⟩
set_option maxHeartbeats 1000000 in
theorem markStrings0 (a : Option Addr) (c k0 : Nat) (w : World) : Calls Tryz.prog 17 #[.slice a 0 c, .int .i64 (k0 : Int)] w fun e w' => e = .returned (.int .i64 (k0 : Int)) ∧ w' = w := by
  go_enter Tryz.func17, Tryz.ntmps17
  go_wp2_with fail
  refine wp_loop_rounds 1 ?_; rw [rounds_succ]; go_wp2_with fail
  go_ret
  exact ⟨rfl, rfl⟩
set_option maxHeartbeats 1000000 in
theorem heldStrings0 (a : Option Addr) (c k0 : Nat) (w : World) : Calls Tryz.prog 18 #[.slice a 0 c, .int .i64 (k0 : Int)] w fun e w' => e = .returned (.int .i64 (k0 : Int)) ∧ w' = w := by
  go_enter Tryz.func18, Tryz.ntmps18
  go_wp2_with fail
  refine wp_loop_rounds 1 ?_; rw [rounds_succ]; go_wp2_with fail
  go_ret
  exact ⟨rfl, rfl⟩
end Go.Proofs.YtemfhnnkkmiamaaGreatDoor
