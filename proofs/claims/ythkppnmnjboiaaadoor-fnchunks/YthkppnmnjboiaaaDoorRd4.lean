import Derived.Test.YthkppnmnjboiaaaDoorRd3
namespace Go.Proofs.YthkppnmnjboiaaaDoor
open Go.ChangeShapes Go.WideShapes Go.ChangeAt Go.RowKit
set_option linter.unusedVariables false
set_option linter.unusedSimpArgs false

theorem row_form1 {w : World} {B : Nat} {v : Value} {zs : List Int} (h : Own w B v zs) : ∃ y m c, v = .slice y m c ∧ m = zs.length := by
  rcases h.2 with ⟨rfl, h0⟩ | ⟨g, cap, cur, rfl, _⟩
  · exact ⟨_, _, _, rfl, h0.symm⟩
  · exact ⟨_, _, _, rfl, rfl⟩

def Src (w : World) (g cap : Nat) (zs : List Int) : Prop := g < w.heap.size ∧ zs.length ≤ cap ∧ cap ≤ 9223372036854775807 ∧ (∀ i, i < zs.length → w.cell? ⟨g, i, none⟩ = some (.int .u8 (zs.getD i 0))) ∧ ∀ z ∈ zs, 0 ≤ z ∧ z < 256
theorem Src.gr {w w' : World} {g cap : Nat} {zs : List Int} {row : Option Nat} (h : Src w g cap zs) (hg : w.grownBy w' row) (hne : some g ≠ row) : Src w' g cap zs :=
  ⟨Nat.lt_of_lt_of_le h.1 hg.size, h.2.1, h.2.2.1, fun i hi => by rw [World.cell?_of_block (hg.block g h.1 hne)]; exact h.2.2.2.1 i hi, h.2.2.2.2⟩
theorem Src.below {w w' : World} {B g cap : Nat} {zs : List Int} (h : Src w g cap zs) (hb : Below B w w') (hg : g < B) : Src w' g cap zs :=
  ⟨Nat.lt_of_lt_of_le h.1 hb.size, h.2.1, h.2.2.1, fun i hi => (hb.cell (p := ⟨g, i, none⟩) hg).trans (h.2.2.2.1 i hi), h.2.2.2.2⟩
theorem Bys.src {w : World} {B : Nat} {v : Value} {zs : List Int} (h : Bys w B v zs) (hz : zs ≠ []) : ∃ g cap, v = .slice (some ⟨g, 0, none⟩) zs.length cap ∧ B ≤ g ∧ Src w g cap zs := by
  obtain ⟨ho, hby⟩ := h
  rcases ho.2 with ⟨e, e0⟩ | ⟨g, cap, cur, e, hb, hg, hnc, hcm, hcs, htk⟩
  · exact absurd (List.length_eq_zero_iff.1 e0) hz
  · have ho' : w.ownsRow B 5 1 v zs.length (zs.map (Value.int .u8)) := ho
    rw [e] at ho'
    refine ⟨g, cap, e, (World.ownsRow.lt ho' g rfl).1, (World.ownsRow.lt ho' g rfl).2, hnc, by unfold maxLen at hcm; omega, fun i hi => ?_, hby⟩
    have := ho'.cellAt i (by omega)
    rw [this]
    simp [List.getD, hi]

def win (zs : List Int) (lo len : Nat) : List Value := ((zs.drop lo).take len).map (Value.int .u8)
theorem win_len {zs : List Int} {lo len : Nat} (h : lo + len ≤ zs.length) : (win zs lo len).length = len * 1 := by simp [win]; omega
theorem win_one (zs : List Int) (lo len : Nat) : ∀ u ∈ win zs lo len, u.oneCell' = true := by
  intro u hu
  simp only [win, List.mem_map] at hu
  obtain ⟨z, _, rfl⟩ := hu
  rfl
theorem win_cells {w : World} {g cap : Nat} {zs : List Int} (h : Src w g cap zs) {lo len : Nat} (hl : lo + len ≤ zs.length) : ∀ j u, (win zs lo len)[j]? = some u → w.cell? ((⟨g, lo, none⟩ : Addr).add j) = some u := by
  intro j u hj
  have hlt : j < len := by
    have := (List.getElem?_eq_some_iff.1 hj).1
    rw [win_len hl] at this; omega
  have e : ((⟨g, lo, none⟩ : Addr).add j) = ⟨g, lo + j, none⟩ := by
    by_cases h0 : j = 0
    · subst h0; simp [Addr.add]
    · simp [Addr.add, h0]
  rw [e, h.2.2.2.1 (lo + j) (by omega)]
  have hg : lo + j < zs.length := by omega
  simp [win, List.getElem?_take, hlt, List.getElem?_drop, hg] at hj
  simp [List.getD, hg, hj]
theorem win_nil (w : World) (ad : Addr) : ∀ j u, ([] : List Value)[j]? = some u → w.cell? (ad.add j) = some u := by intro j u hj; simp at hj
theorem bys_win {zs ys : List Int} (lo len : Nat) (hy : ∀ z ∈ ys, 0 ≤ z ∧ z < 256) (hz : ∀ z ∈ zs, 0 ≤ z ∧ z < 256) : ∀ z ∈ ys ++ (zs.drop lo).take len, 0 ≤ z ∧ z < 256 := by
  intro z h
  rcases List.mem_append.1 h with h | h
  · exact hy z h
  · exact hz z (List.mem_of_mem_drop (List.mem_of_mem_take h))

set_option maxRecDepth 100000 in
set_option maxHeartbeats 2000000 in
theorem rdChange (B rb : Nat) (v : Value) (zs : List Int) (C : Nat) (w : World) (h : Rd w B rb) (hb : Bys w C v zs) (hBC : B ≤ C) (hC : C ≤ w.heap.size) (hl : zs.length ≤ 1000) :
    Calls Tryd.prog 21 #[.pointer (some ⟨rb, 0, none⟩), v] w fun e w' => ∃ v' zs', e = .returned v' ∧ zs'.length ≤ zs.length + 1 ∧ Bys w' C v' zs' ∧ Rd w' B rb ∧ w.grownBy w' (some rb) := by
  obtain ⟨i0, hi, hz0, hz1, hz2⟩ := info_parts Tryd.infoByte
  have hrb := h.lt
  have HR := hid h
  have HV := hid hb
  have hform := row_form1 hb.1
  obtain ⟨y, m, c, rfl, hm⟩ := hform
  obtain rfl : m = zs.length := hm
  clear h hb
  go_enter Tryd.func21, Tryd.ntmps21
  go_wp2_with fail
  refine (rdNext B rb w HR.out).mono ?_
  rintro e w1 ⟨k, hk, rfl, r1, g1⟩
  have HR1 := hid r1
  have HG1 := hid g1
  clear r1 g1
  go_wp2_with fail
  refine (rdNext B rb _ HR1.out).mono ?_
  rintro e w2 ⟨p1, hp1, rfl, r2, g2⟩
  have HR2 := hid r2
  have HG2 := hid (grown_trans HG1.out g2)
  clear r2 g2 HR1 HG1
  go_wp2_with fail
  refine (rdNext B rb _ HR2.out).mono ?_
  rintro e w3 ⟨p2, hp2, rfl, r3, g3⟩
  have HR3 := hid r3
  have HG3 := hid (grown_trans HG2.out g3)
  have z3 := HG3.out.size
  clear r3 g3 HR2 HG2
  have hown : (w3.alloc (.cells #[] 5)).ownsRow w.heap.size 5 1 (.slice (some ⟨w3.heap.size, 0, none⟩) 0 0) 0 [] := rowE w3 w.heap.size z3
  obtain ⟨W4, hW4⟩ : ∃ W4, w3.alloc (.cells #[] 5) = W4 := ⟨_, rfl⟩
  rw [hW4] at hown
  have hg4 : w.grownBy W4 (some rb) := by rw [← hW4]; exact HG3.out.andThen (World.grownBy_alloc w3 _ _) (fun j hj => .inr hj)
  have HR4 := hid (show Rd W4 B rb from HR3.out.below (by rw [← hW4]; exact (Below.refl _ _).alloc (by omega) _))
  have HG4 := hid hg4
  have z4 := hg4.size
  clear hg4 HR3 HG3
  by_cases hz : zs.length = 0
  · have hwk : IntKind.u8.wrap (k : Int) = (k : Int) := by rw [IntKind.wrap_u8]; omega
    go_wp2_with (at_builtin; refine wpList_app_at rfl _ _ 22 rfl w.heap.size 5 i0 (.int .u8 0) 1 1 Tryd.underlying22 hi hz0 hz1 hz2 rfl (by decide) _ _ _ rfl (hown.alloc _) ⟨W4.heap.size, 0, none⟩ 1 1 [.int .u8 (k : Int)] rfl rfl ?c1 ?c2 ?c3 ?c4 ?c5 ?_)
    case c1 => exact cell_one_new _ _ _
    case c2 => intro u hu; simp at hu; subst hu; rfl
    case c3 => unfold maxLen; omega
    case c4 => omega
    case c5 => simp; omega
    · intro v' w5 hown' hgr hob
      have RB : Hid (Below w.heap.size W4 w5) := ((Below.refl _ _).alloc (by omega) _).grown hgr (by simp; omega) (fun k hk => (hown.lt k hk).1)
      have HR5 := hid (HR4.out.below (RB.out.mono (by omega)))
      have HG5 : Hid (w.grownBy w5 (some rb)) := ⟨RB.out.os.trans HG4.out.os, RB.out.tape.trans HG4.out.tape, RB.out.output.trans HG4.out.output, Nat.le_trans HG4.out.size RB.out.size, fun k hk hne => (RB.out.block k hk).trans (HG4.out.block k hk hne)⟩
      have R : Hid (Bys w5 C v' [(k : Int)]) := ⟨Own.weak (show Own w5 w.heap.size v' [(k : Int)] from hown') hC, fun z hz => by simp at hz; subst hz; omega⟩
      clear hown' hgr hob RB hown hW4
      go_wp2_with fail
      go_ret
      exact ⟨_, _, rfl, by simp, R.out, HR5.out, HG5.out⟩
  · have hzn : zs ≠ [] := fun e => hz (by rw [e]; rfl)
    obtain ⟨g, cap, ev, hCg, hsrc⟩ := HV.out.src hzn
    injection ev with ev1 ev2 ev3
    subst ev1 ev3
    have hgr0 : some g ≠ some rb := fun e => by injection e with e; omega
    have hsrc4 := hsrc.gr HG4.out hgr0
    have hgw := hsrc.1
    have hcapl := hsrc.2.1
    have hcapm := hsrc.2.2.1
    obtain ⟨q, hq⟩ : ∃ q : Nat, q = (p1 * 256 + p2) % zs.length := ⟨_, rfl⟩
    have hql : q < zs.length := by rw [hq]; exact Nat.mod_lt _ (by omega)
    have hqi : ((p1 : Int) * 256 + (p2 : Int)) % (zs.length : Int) = (q : Int) := by rw [hq]; push_cast; rfl
    have hqt : ((p1 : Int) * 256 + (p2 : Int)).tmod (zs.length : Int) = (q : Int) := by rw [Int.tmod_eq_emod_of_nonneg (by omega)]; exact hqi
    have hzp : 0 < zs.length := by omega
    have hq0 : (0 : Int) ≤ (q : Int) := Int.natCast_nonneg _
    have hq1 : (q : Int) < (zs.length : Int) := by omega
    have HSRC := hid hsrc4
    obtain ⟨L, hL⟩ : ∃ L : Nat, zs.length = L := ⟨_, rfl⟩
    have HL := hid hL
    rw [hL] at hql hqi hqt hzp hq1 hcapl hz hl ⊢
    clear hq hsrc hsrc4 HV hL hzn
    go_wp2_with (at_builtin; refine wpList_app_at rfl _ _ 22 rfl w.heap.size 5 i0 (.int .u8 0) 1 1 Tryd.underlying22 hi hz0 hz1 hz2 rfl (by decide) _ _ _ rfl hown ⟨g, 0, none⟩ q c (win zs 0 q) rfl (win_len (by have := HL.out; omega)) (win_cells HSRC.out (by have := HL.out; omega)) (win_one _ _ _) ?d3 ?d4 ?d5 ?_)
    case d3 => unfold maxLen; omega
    case d4 => omega
    case d5 => omega
    · intro v5 w5 hown5 hgr5 hob5
      have RB : Hid (Below w.heap.size W4 w5) := (Below.refl _ _).grown hgr5 (by omega) (fun k hk => (hown.lt k hk).1)
      have HR5 := hid (HR4.out.below (RB.out.mono (by omega)))
      have HG5 : Hid (w.grownBy w5 (some rb)) := ⟨RB.out.os.trans HG4.out.os, RB.out.tape.trans HG4.out.tape, RB.out.output.trans HG4.out.output, Nat.le_trans HG4.out.size RB.out.size, fun k hk hne => (RB.out.block k hk).trans (HG4.out.block k hk hne)⟩
      have HS5 := hid (HSRC.out.below RB.out hgw)
      have z5 := HG5.out.size
      have HB0 : Hid (∀ z ∈ (zs.drop 0).take q, 0 ≤ z ∧ z < 256) := fun z hz => HSRC.out.2.2.2.2 z (List.mem_of_mem_drop (List.mem_of_mem_take hz))
      have ho5 : w5.ownsRow w.heap.size 5 1 v5 q (win zs 0 q) := by simpa using hown5
      have fin : ∀ (v' : Value) (w6 : World) (ys : List Int), Below w.heap.size w5 w6 → w6.ownsRow w.heap.size 5 1 v' ys.length (ys.map (Value.int .u8)) → (∀ z ∈ ys, 0 ≤ z ∧ z < 256) → ys.length ≤ L + 1 →
          ∃ v'' zs', Ending.returned v' = .returned v'' ∧ zs'.length ≤ L + 1 ∧ Bys w6 C v'' zs' ∧ Rd w6 B rb ∧ w.grownBy w6 (some rb) := fun v' w6 ys hb6 ho6 hy6 hl6 =>
        ⟨v', ys, rfl, hl6, ⟨Own.weak (show Own w6 w.heap.size v' ys from ho6) hC, hy6⟩, HR5.out.below (hb6.mono (by omega)), ⟨hb6.os.trans HG5.out.os, hb6.tape.trans HG5.out.tape, hb6.output.trans HG5.out.output, Nat.le_trans HG5.out.size hb6.size, fun k hk hne => (hb6.block k hk).trans (HG5.out.block k hk hne)⟩⟩
      have FIN := hid fin
      have hbase5 : w.heap.size ≤ w5.heap.size := z5
      clear hown5 hgr5 hob5 RB hown hW4 HR4 HG4 HSRC fin
      have hk4 : k % 4 = 0 ∨ k % 4 = 1 ∨ k % 4 = 2 ∨ k % 4 = 3 := by omega
      have hq2 : (q : Int) + 1 ≤ (L : Int) := by omega
      have hq3 : (q : Int) + 1 ≤ (c : Int) := by omega
      have hq4 : (q : Int) ≤ (c : Int) := by omega
      have hLc : (L : Int) ≤ (c : Int) := by omega
      rcases hk4 with h4 | h4 | h4 | h4
      · have e0 : ((k : Int) % 4 == 0) = true := by simp; omega
        by_cases hc1 : q + 1 < c
        · go_wp2_with (at_builtin; refine wpList_app_at rfl _ _ 22 rfl w.heap.size 5 i0 (.int .u8 0) 1 1 Tryd.underlying22 hi hz0 hz1 hz2 rfl (by decide) _ _ _ rfl ho5 ⟨g, q + 1, none⟩ (L - (q + 1)) (c - (q + 1)) (win zs (q + 1) (L - (q + 1))) rfl (win_len (by have := HL.out; omega)) (by have := win_cells HS5.out (lo := q + 1) (len := L - (q + 1)) (by have := HL.out; omega); exact this) (win_one _ _ _) ?e3 ?e4 ?e5 ?_)
          case e3 => unfold maxLen; omega
          case e4 => omega
          case e5 => omega
          · intro v6 w6 hown6 hgr6 hob6
            have R := hid (FIN.out v6 w6 ((zs.drop 0).take q ++ (zs.drop (q + 1)).take (L - (q + 1))) ((Below.refl _ _).grown hgr6 hbase5 (fun k hk => (ho5.lt k hk).1)) (by
              have e1 : ((zs.drop 0).take q ++ (zs.drop (q + 1)).take (L - (q + 1))).length = q + (L - (q + 1)) := by have := HL.out; simp; omega
              rw [e1, List.map_append]; exact hown6) (bys_win _ _ HB0.out HS5.out.2.2.2.2) (by have := HL.out; simp; omega))
            clear hown6 hgr6 hob6
            go_wp2_with fail
            go_ret
            obtain ⟨r1, r2, r3, r4, r5, r6, r7⟩ := R.out
            first | exact ⟨r1, r2, r3, by have := HL.out; omega, r5, r6, r7⟩ | exact ⟨r1, r3, r2, by have := HL.out; omega, r5, r6, r7⟩
        · obtain rfl : c = q + 1 := by omega
          obtain rfl : L = q + 1 := by omega
          have hnw : ∀ (W : World) (ad : Addr) j u, (win zs (q + 1) (q + 1 - (q + 1)))[j]? = some u → W.cell? (ad.add j) = some u := fun W ad j u hj => by
            have h1 := (List.getElem?_eq_some_iff.1 hj).1
            rw [win_len (by have := HL.out; omega)] at h1
            omega
          go_wp2_with (at_builtin; refine wpList_app_at rfl _ _ 22 rfl w.heap.size 5 i0 (.int .u8 0) 1 1 Tryd.underlying22 hi hz0 hz1 hz2 rfl (by decide) _ _ _ rfl ho5 _ 0 _ [] rfl rfl (win_nil _ _) (by simp) ?f3 ?f4 ?f5 ?_)
          case f3 => unfold maxLen; omega
          case f4 => omega
          case f5 => omega
          · intro v6 w6 hown6 hgr6 hob6
            have R := hid (FIN.out v6 w6 ((zs.drop 0).take q) ((Below.refl _ _).grown hgr6 hbase5 (fun k hk => (ho5.lt k hk).1)) (by
              have e1 : ((zs.drop 0).take q).length = q := by have := HL.out; simp; omega
              rw [e1]; simpa [win] using hown6) HB0.out (by have := HL.out; simp; omega))
            clear hown6 hgr6 hob6
            go_wp2_with fail
            go_ret
            obtain ⟨r1, r2, r3, r4, r5, r6, r7⟩ := R.out
            first | exact ⟨r1, r2, r3, by have := HL.out; omega, r5, r6, r7⟩ | exact ⟨r1, r3, r2, by have := HL.out; omega, r5, r6, r7⟩
      · have e0 : ((k : Int) % 4 == 0) = false := by simp; omega
        have e1 : ((k : Int) % 4 == 1) = true := by simp; omega
        obtain ⟨z, hzv⟩ : ∃ z : Nat, zs.getD q 0 = (z : Int) := ⟨(zs.getD q 0).toNat, by have := (bytesOf HS5.out.2.2.2.2 q).1; dsimp only at this; omega⟩
        have hz8 : z < 256 := by have := (bytesOf HS5.out.2.2.2.2 q).2; dsimp only at this; omega
        have hcz : w5.cell? ⟨g, q, none⟩ = some (.int .u8 (z : Int)) := by rw [HS5.out.2.2.2.1 q (by have := HL.out; omega), hzv]
        clear hzv
        obtain ⟨k4, hk4⟩ : ∃ k4 : Nat, IntKind.i64.wrap ((k : Int) / 4) = (k4 : Int) := ⟨k / 4, by rw [wrapIn _ (by omega) (by omega)]; omega⟩
        have hk48 : k4 < 64 := by rw [wrapIn _ (by omega) (by omega)] at hk4; omega
        obtain ⟨y, hy⟩ : ∃ y : Nat, IntKind.u8.wrap (k4 : Int) = (y : Int) := ⟨k4, by rw [IntKind.wrap_u8]; omega⟩
        have hy8 : y < 256 := by rw [IntKind.wrap_u8] at hy; omega
        have hqL : q ≤ L := by omega
        have hcn : ¬ c = q := by omega
        go_wp2_with fail
        refine wp_region_held_drew (S := fun w' => Below w.heap.size w5 w' ∧ w'.cell? ⟨g, q, none⟩ = some (.int .u8 (z : Int))) (by kernel_rfl) ⟨(Below.refl _ _).drew, hcz⟩ (fun hHeld => ?_)
        refine take1 (i := 0) (d := some 46) (v := ?_) (by kernel_rfl) (by kernel_rfl) (by kernel_rfl) (by kernel_rfl) (fun _ _ _ h => h) ?_ hHeld ?_
        rotate_left
        · (intro o ho; simp only [List.getElem?_toArray, List.getElem?_cons_succ, List.getElem?_cons_zero, Option.some.injEq] at ho; subst ho; refine Or.inl ⟨by rfl, ?_⟩; intro w hSw; (try dsimp only at hSw); go_simp; try with_reducible rfl)
        try simp only [Act.put, List.setIfInBounds_toArray, List.set_cons_zero, List.set_cons_succ]
        refine take1 (i := 1) (d := some 47) (v := ?_) (by kernel_rfl) (by kernel_rfl) (by kernel_rfl) (by kernel_rfl) (fun _ _ _ h => h) ?_ hHeld ?_
        rotate_left
        · (intro o ho; simp only [List.getElem?_toArray, List.getElem?_cons_succ, List.getElem?_cons_zero, Option.some.injEq] at ho; subst ho; refine Or.inl ⟨by rfl, ?_⟩; intro w hSw; (try dsimp only at hSw); go_simp; try with_reducible rfl)
        try simp only [Act.put, List.setIfInBounds_toArray, List.set_cons_zero, List.set_cons_succ]
        refine take1 (i := 2) (d := some 48) (v := ?_) (by kernel_rfl) (by kernel_rfl) (by kernel_rfl) (by kernel_rfl) (fun _ _ _ h => h) ?_ hHeld ?_
        rotate_left
        · (intro o ho; simp only [List.getElem?_toArray, List.getElem?_cons_succ, List.getElem?_cons_zero, Option.some.injEq] at ho; subst ho; refine Or.inl ⟨by rfl, ?_⟩; intro w hSw; (try dsimp only at hSw); go_simp; try with_reducible rfl)
        try simp only [Act.put, List.setIfInBounds_toArray, List.set_cons_zero, List.set_cons_succ]
        refine take1 (i := 3) (d := some 49) (v := ?_) (by kernel_rfl) (by kernel_rfl) (by kernel_rfl) (by kernel_rfl) (fun _ _ _ h => h) ?_ hHeld ?_
        rotate_left
        · (intro o ho; simp only [List.getElem?_toArray, List.getElem?_cons_succ, List.getElem?_cons_zero, Option.some.injEq] at ho; subst ho; refine Or.inl ⟨by rfl, ?_⟩; intro w hSw; (try dsimp only at hSw); go_simp; try with_reducible rfl)
        try simp only [Act.put, List.setIfInBounds_toArray, List.set_cons_zero, List.set_cons_succ]
        refine take1 (i := 6) (d := some 52) (v := ?_) (by kernel_rfl) (by kernel_rfl) (by kernel_rfl) (by kernel_rfl) (fun _ _ _ h => h) ?_ hHeld ?_
        rotate_left
        · (intro o ho; simp only [List.getElem?_toArray, List.getElem?_cons_succ, List.getElem?_cons_zero, Option.some.injEq] at ho; subst ho; refine Or.inl ⟨by rfl, ?_⟩; intro w hSw; (try dsimp only at hSw); go_simp; try with_reducible rfl)
        try simp only [Act.put, List.setIfInBounds_toArray, List.set_cons_zero, List.set_cons_succ]
        refine take1 (i := 7) (d := some 53) (v := ?_) (by kernel_rfl) (by kernel_rfl) (by kernel_rfl) (by kernel_rfl) (fun _ _ _ h => h) ?_ hHeld ?_
        rotate_left
        · (intro o ho; simp only [List.getElem?_toArray, List.getElem?_cons_succ, List.getElem?_cons_zero, Option.some.injEq] at ho; subst ho; refine Or.inl ⟨by rfl, ?_⟩; intro w hSw; (try dsimp only at hSw); go_simp; try with_reducible rfl)
        try simp only [Act.put, List.setIfInBounds_toArray, List.set_cons_zero, List.set_cons_succ]
        refine take1 (i := 8) (d := some 54) (v := ?_) (by kernel_rfl) (by kernel_rfl) (by kernel_rfl) (by kernel_rfl) (fun _ _ _ h => h) ?_ hHeld ?_
        rotate_left
        · (intro o ho; simp only [List.getElem?_toArray, List.getElem?_cons_succ, List.getElem?_cons_zero, Option.some.injEq] at ho; subst ho; refine Or.inl ⟨by rfl, ?_⟩; intro w hSw; (try dsimp only at hSw); go_simp; try with_reducible rfl)
        try simp only [Act.put, List.setIfInBounds_toArray, List.set_cons_zero, List.set_cons_succ]
        refine call1 (i := 4) (d := some 50) (by kernel_rfl) (by kernel_rfl) ?_
        intro o ho hod K hK; simp only [List.getElem?_toArray, List.getElem?_cons_succ, List.getElem?_cons_zero, Option.some.injEq] at ho; subst ho
        go_simp
        obtain ⟨W6, hW6⟩ : ∃ W6, (w5.alloc (.cells #[.int .u8 (y : Int)] 5)).drew = W6 := ⟨_, rfl⟩
        have b6 : Below w5.heap.size w5 W6 := by rw [← hW6]; exact ((Below.refl _ _).alloc (Nat.le_refl _) _).drew
        have z6 : W6.heap.size = w5.heap.size + 1 := by rw [← hW6]; simp
        have hn6 : ∀ j u, [Value.int .u8 (y : Int)][j]? = some u → W6.cell? ((⟨w5.heap.size, 0, none⟩ : Addr).add j) = some u := by rw [← hW6]; exact cell_one_new w5 _ _
        have ho6 : W6.ownsRow w.heap.size 5 1 v5 q (win zs 0 q) := by rw [← hW6]; exact World.ownsRow.alloc (w := w5) ho5 _
        rw [hW6]
        clear hW6
        have c6 := (b6.cell (p := ⟨g, q, none⟩) (show g < w5.heap.size by omega)).trans hcz
        refine hK.out _ _ ⟨b6.mono hbase5, c6⟩ (fun hHeld => ?_)
        clear hK K
        try simp only [Act.put, List.setIfInBounds_toArray, List.set_cons_zero, List.set_cons_succ]
        refine call1 (i := 5) (d := some 51) (by kernel_rfl) (by kernel_rfl) ?_
        intro o ho hod K hK; simp only [List.getElem?_toArray, List.getElem?_cons_succ, List.getElem?_cons_zero, Option.some.injEq] at ho; subst ho
        rw [if_pos (by rfl)]
        refine wp_app_at _ _ _ (by rfl) w.heap.size 5 i0 _ 1 1 Tryd.underlying22 hi hz0 hz1 hz2 rfl (by decide) v5 q _ (by rfl) ho6 ⟨w5.heap.size, 0, none⟩ 1 1 [.int .u8 (y : Int)] (by rfl) (by rfl) hn6 (by intro u hu; simp at hu; subst hu; rfl) (by unfold maxLen; omega) (by omega) (by omega) ?_
        intro v7 w7 hown7 hgr7 hloc7
        have b7 : Below w.heap.size w5 w7 := (b6.mono hbase5).grown hgr7 (by omega) (fun k hk => (ho6.lt k hk).1)
        have z7 := b7.size
        have c7 := (b7.cell (p := ⟨g, q, none⟩) (show g < w.heap.size by omega)).trans hcz
        have HS7 := hid (HS5.out.below b7 hgw)
        refine hK.out _ _ ⟨b7, c7⟩ (fun hHeld => ?_)
        clear hK K
        try simp only [Act.put, List.setIfInBounds_toArray, List.set_cons_zero, List.set_cons_succ]
        refine call1 (i := 9) (d := some 55) (by kernel_rfl) (by kernel_rfl) ?_
        intro o ho hod K hK; simp only [List.getElem?_toArray, List.getElem?_cons_succ, List.getElem?_cons_zero, Option.some.injEq] at ho; subst ho
        rw [if_pos (by rfl)]
        refine wp_app_at _ _ _ (by rfl) w.heap.size 5 i0 _ 1 1 Tryd.underlying22 hi hz0 hz1 hz2 rfl (by decide) v7 (q + 1) _ (by rfl) hown7 _ (L - q) _ (win zs (q) (L - q)) (by rfl) (win_len (by have := HL.out; omega)) (win_cells HS7.out (by have := HL.out; omega)) (win_one _ _ _) (by unfold maxLen; omega) (by omega) (by omega) ?_
        intro v8 w8 hown8 hgr8 hloc8
        have b8 : Below w.heap.size w5 w8 := b7.grown hgr8 (by omega) (fun k hk => (hown7.lt k hk).1)
        have c8 := (b8.cell (p := ⟨g, q, none⟩) (show g < w.heap.size by omega)).trans hcz
        refine hK.out _ _ ⟨b8, c8⟩ (fun hHeld => ?_)
        clear hK K
        try simp only [Act.put, List.setIfInBounds_toArray, List.set_cons_zero, List.set_cons_succ]
        refine take1 (i := 10) (d := some 4) (v := ?_) (by kernel_rfl) (by kernel_rfl) (by kernel_rfl) (by kernel_rfl) (fun _ _ _ h => h) ?_ hHeld ?_
        rotate_left
        · (intro o ho; simp only [List.getElem?_toArray, List.getElem?_cons_succ, List.getElem?_cons_zero, Option.some.injEq] at ho; subst ho; refine Or.inl ⟨by rfl, ?_⟩; intro w hSw; (try dsimp only at hSw); go_simp; try with_reducible rfl)
        try simp only [Act.put, List.setIfInBounds_toArray, List.set_cons_zero, List.set_cons_succ]
        refine wpAnyH_done (by kernel_rfl) ?_ _
        have R := hid (FIN.out v8 w8 ((zs.drop 0).take q ++ [(y : Int)] ++ (zs.drop (q)).take (L - q)) b8 (by
          have e1 : ((zs.drop 0).take q ++ [(y : Int)] ++ (zs.drop (q)).take (L - q)).length = q + 1 + (L - q) := by have := HL.out; simp; omega
          rw [e1, List.map_append, List.map_append]; exact hown8) (bys_win _ _ (fun z hz => by
            rcases List.mem_append.1 hz with h | h
            · exact HB0.out z h
            · simp at h; subst h; omega) HS5.out.2.2.2.2) (by have := HL.out; simp; omega))
        clear hHeld
        go_wp2_with fail
        go_ret
        obtain ⟨r1, r2, r3, r4, r5, r6, r7⟩ := R.out
        first | exact ⟨r1, r2, r3, by have := HL.out; omega, r5, r6, r7⟩ | exact ⟨r1, r3, r2, by have := HL.out; omega, r5, r6, r7⟩
      · have e0 : ((k : Int) % 4 == 0) = false := by simp; omega
        have e1 : ((k : Int) % 4 == 1) = false := by simp; omega
        have e2 : ((k : Int) % 4 == 2) = true := by simp; omega
        have R := hid (FIN.out v5 w5 ((zs.drop 0).take q) (Below.refl _ _) (by
          have e1 : ((zs.drop 0).take q).length = q := by have := HL.out; simp; omega
          rw [e1]; exact ho5) HB0.out (by have := HL.out; simp; omega))
        go_wp2_with fail
        go_ret
        obtain ⟨r1, r2, r3, r4, r5, r6, r7⟩ := R.out
        first | exact ⟨r1, r2, r3, by have := HL.out; omega, r5, r6, r7⟩ | exact ⟨r1, r3, r2, by have := HL.out; omega, r5, r6, r7⟩
      · have e0 : ((k : Int) % 4 == 0) = false := by simp; omega
        have e1 : ((k : Int) % 4 == 1) = false := by simp; omega
        have e2 : ((k : Int) % 4 == 2) = false := by simp; omega
        obtain ⟨z, hzv⟩ : ∃ z : Nat, zs.getD q 0 = (z : Int) := ⟨(zs.getD q 0).toNat, by have := (bytesOf HS5.out.2.2.2.2 q).1; dsimp only at this; omega⟩
        have hz8 : z < 256 := by have := (bytesOf HS5.out.2.2.2.2 q).2; dsimp only at this; omega
        have hcz : w5.cell? ⟨g, q, none⟩ = some (.int .u8 (z : Int)) := by rw [HS5.out.2.2.2.1 q (by have := HL.out; omega), hzv]
        clear hzv
        obtain ⟨k4, hk4⟩ : ∃ k4 : Nat, IntKind.i64.wrap ((k : Int) / 4) = (k4 : Int) := ⟨k / 4, by rw [wrapIn _ (by omega) (by omega)]; omega⟩
        have hk48 : k4 < 64 := by rw [wrapIn _ (by omega) (by omega)] at hk4; omega
        obtain ⟨k5, hk5⟩ : ∃ k5 : Nat, IntKind.i64.wrap (1 + (k4 : Int)) = (k5 : Int) := ⟨1 + k4, by rw [wrapIn _ (by omega) (by omega)]; omega⟩
        have hk58 : k5 < 65 := by rw [wrapIn _ (by omega) (by omega)] at hk5; omega
        obtain ⟨t, ht⟩ : ∃ t : Nat, IntKind.u8.wrap (k5 : Int) = (t : Int) := ⟨k5, by rw [IntKind.wrap_u8]; omega⟩
        obtain ⟨q1, hq1e⟩ : ∃ q1 : Nat, q1 = q + 1 := ⟨_, rfl⟩
        have hq1w : IntKind.i64.wrap ((q : Int) + 1) = (q1 : Int) := by rw [wrapIn _ (by omega) (by omega)]; omega
        have hq1a : (0 : Int) ≤ (q1 : Int) := Int.natCast_nonneg _
        have hq1b : (q1 : Int) ≤ (L : Int) := by omega
        have hq1c : (q1 : Int) ≤ (c : Int) := by omega
        have HQ1 := hid hq1e
        have hq1L : q1 ≤ L := by omega
        have ht8 : t < 256 := by rw [IntKind.wrap_u8] at ht; omega
        obtain ⟨y, hy⟩ : ∃ y : Nat, bits BinOp.xor IntKind.u8 (z : Int) (t : Int) = (y : Int) := ⟨z ^^^ t, u8_xor_nat z t hz8 ht8⟩
        have hy8 : y < 256 := by
          have h1 := u8_xor_nat z t hz8 ht8
          have h2 : z ^^^ t < 2 ^ 8 := Nat.xor_lt_two_pow (by omega) (by omega)
          rw [hy] at h1; omega
        by_cases hc1 : q1 < c
        · have hcn1 : ¬ c = q1 := by omega
          clear hq1e
          go_wp2_with fail
          refine wp_region_held_drew (S := fun w' => Below w.heap.size w5 w' ∧ w'.cell? ⟨g, q, none⟩ = some (.int .u8 (z : Int))) (by kernel_rfl) ⟨(Below.refl _ _).drew, hcz⟩ (fun hHeld => ?_)
          refine take1 (i := 0) (d := some 60) (v := ?_) (by kernel_rfl) (by kernel_rfl) (by kernel_rfl) (by kernel_rfl) (fun _ _ _ h => h) ?_ hHeld ?_
          rotate_left
          · (intro o ho; simp only [List.getElem?_toArray, List.getElem?_cons_succ, List.getElem?_cons_zero, Option.some.injEq] at ho; subst ho; refine Or.inl ⟨by rfl, ?_⟩; intro w hSw; (try dsimp only at hSw); go_simp; try with_reducible rfl)
          try simp only [Act.put, List.setIfInBounds_toArray, List.set_cons_zero, List.set_cons_succ]
          refine take1 (i := 1) (d := some 61) (v := ?_) (by kernel_rfl) (by kernel_rfl) (by kernel_rfl) (by kernel_rfl) (fun _ _ _ h => h) ?_ hHeld ?_
          rotate_left
          · (intro o ho; simp only [List.getElem?_toArray, List.getElem?_cons_succ, List.getElem?_cons_zero, Option.some.injEq] at ho; subst ho; refine Or.inl ⟨by rfl, ?_⟩; intro w hSw; (try dsimp only at hSw); go_simp; try with_reducible rfl)
          try simp only [Act.put, List.setIfInBounds_toArray, List.set_cons_zero, List.set_cons_succ]
          refine take1 (i := 2) (d := some 62) (v := ?_) (by kernel_rfl) (by kernel_rfl) (by kernel_rfl) (by kernel_rfl) (fun _ _ _ h => h) ?_ hHeld ?_
          rotate_left
          · (intro o ho; simp only [List.getElem?_toArray, List.getElem?_cons_succ, List.getElem?_cons_zero, Option.some.injEq] at ho; subst ho; refine Or.inl ⟨by rfl, ?_⟩; intro w hSw; (try dsimp only at hSw); go_simp; try with_reducible rfl)
          try simp only [Act.put, List.setIfInBounds_toArray, List.set_cons_zero, List.set_cons_succ]
          refine take1 (i := 3) (d := some 63) (v := ?_) (by kernel_rfl) (by kernel_rfl) (by kernel_rfl) (by kernel_rfl) (fun _ _ _ h => h) ?_ hHeld ?_
          rotate_left
          · (intro o ho; simp only [List.getElem?_toArray, List.getElem?_cons_succ, List.getElem?_cons_zero, Option.some.injEq] at ho; subst ho; refine Or.inl ⟨by rfl, ?_⟩; intro w hSw; (try dsimp only at hSw); go_simp; try with_reducible rfl)
          try simp only [Act.put, List.setIfInBounds_toArray, List.set_cons_zero, List.set_cons_succ]
          refine take1 (i := 4) (d := some 64) (v := ?_) (by kernel_rfl) (by kernel_rfl) (by kernel_rfl) (by kernel_rfl) (fun _ _ _ h => h) ?_ hHeld ?_
          rotate_left
          · (intro o ho; simp only [List.getElem?_toArray, List.getElem?_cons_succ, List.getElem?_cons_zero, Option.some.injEq] at ho; subst ho; refine Or.inl ⟨by rfl, ?_⟩; intro w hSw; (try dsimp only at hSw); go_simp; try with_reducible rfl)
          try simp only [Act.put, List.setIfInBounds_toArray, List.set_cons_zero, List.set_cons_succ]
          refine take1 (i := 5) (d := some 65) (v := ?_) (by kernel_rfl) (by kernel_rfl) (by kernel_rfl) (by kernel_rfl) (fun _ _ _ h => h) ?_ hHeld ?_
          rotate_left
          · (intro o ho; simp only [List.getElem?_toArray, List.getElem?_cons_succ, List.getElem?_cons_zero, Option.some.injEq] at ho; subst ho; refine Or.inl ⟨by rfl, ?_⟩; intro w hSw; (try dsimp only at hSw); go_simp; try with_reducible rfl)
          try simp only [Act.put, List.setIfInBounds_toArray, List.set_cons_zero, List.set_cons_succ]
          refine take1 (i := 6) (d := some 66) (v := ?_) (by kernel_rfl) (by kernel_rfl) (by kernel_rfl) (by kernel_rfl) (fun _ _ _ h => h) ?_ hHeld ?_
          rotate_left
          · (intro o ho; simp only [List.getElem?_toArray, List.getElem?_cons_succ, List.getElem?_cons_zero, Option.some.injEq] at ho; subst ho; refine Or.inl ⟨by rfl, ?_⟩; intro w hSw; (try dsimp only at hSw); go_simp; try with_reducible rfl)
          try simp only [Act.put, List.setIfInBounds_toArray, List.set_cons_zero, List.set_cons_succ]
          refine take1 (i := 7) (d := some 67) (v := ?_) (by kernel_rfl) (by kernel_rfl) (by kernel_rfl) (by kernel_rfl) (fun _ _ _ h => h) ?_ hHeld ?_
          rotate_left
          · (intro o ho; simp only [List.getElem?_toArray, List.getElem?_cons_succ, List.getElem?_cons_zero, Option.some.injEq] at ho; subst ho; refine Or.inl ⟨by rfl, ?_⟩; intro w hSw; (try dsimp only at hSw); go_simp; try with_reducible rfl)
          try simp only [Act.put, List.setIfInBounds_toArray, List.set_cons_zero, List.set_cons_succ]
          refine take1 (i := 8) (d := some 68) (v := ?_) (by kernel_rfl) (by kernel_rfl) (by kernel_rfl) (by kernel_rfl) (fun _ _ _ h => h) ?_ hHeld ?_
          rotate_left
          · (intro o ho; simp only [List.getElem?_toArray, List.getElem?_cons_succ, List.getElem?_cons_zero, Option.some.injEq] at ho; subst ho; refine Or.inl ⟨by rfl, ?_⟩; intro w hSw; (try dsimp only at hSw); go_simp; try with_reducible rfl)
          try simp only [Act.put, List.setIfInBounds_toArray, List.set_cons_zero, List.set_cons_succ]
          refine take1 (i := 9) (d := some 69) (v := ?_) (by kernel_rfl) (by kernel_rfl) (by kernel_rfl) (by kernel_rfl) (fun _ _ _ h => h) ?_ hHeld ?_
          rotate_left
          · (intro o ho; simp only [List.getElem?_toArray, List.getElem?_cons_succ, List.getElem?_cons_zero, Option.some.injEq] at ho; subst ho; refine Or.inl ⟨by rfl, ?_⟩; intro w hSw; (try dsimp only at hSw); go_simp; try with_reducible rfl)
          try simp only [Act.put, List.setIfInBounds_toArray, List.set_cons_zero, List.set_cons_succ]
          refine take1 (i := 12) (d := some 72) (v := ?_) (by kernel_rfl) (by kernel_rfl) (by kernel_rfl) (by kernel_rfl) (fun _ _ _ h => h) ?_ hHeld ?_
          rotate_left
          · (intro o ho; simp only [List.getElem?_toArray, List.getElem?_cons_succ, List.getElem?_cons_zero, Option.some.injEq] at ho; subst ho; refine Or.inl ⟨by rfl, ?_⟩; intro w hSw; (try dsimp only at hSw); go_simp; try with_reducible rfl)
          try simp only [Act.put, List.setIfInBounds_toArray, List.set_cons_zero, List.set_cons_succ]
          refine take1 (i := 13) (d := some 73) (v := ?_) (by kernel_rfl) (by kernel_rfl) (by kernel_rfl) (by kernel_rfl) (fun _ _ _ h => h) ?_ hHeld ?_
          rotate_left
          · (intro o ho; simp only [List.getElem?_toArray, List.getElem?_cons_succ, List.getElem?_cons_zero, Option.some.injEq] at ho; subst ho; refine Or.inl ⟨by rfl, ?_⟩; intro w hSw; (try dsimp only at hSw); go_simp; try with_reducible rfl)
          try simp only [Act.put, List.setIfInBounds_toArray, List.set_cons_zero, List.set_cons_succ]
          refine take1 (i := 14) (d := some 74) (v := ?_) (by kernel_rfl) (by kernel_rfl) (by kernel_rfl) (by kernel_rfl) (fun _ _ _ h => h) ?_ hHeld ?_
          rotate_left
          · (intro o ho; simp only [List.getElem?_toArray, List.getElem?_cons_succ, List.getElem?_cons_zero, Option.some.injEq] at ho; subst ho; refine Or.inl ⟨by rfl, ?_⟩; intro w hSw; (try dsimp only at hSw); go_simp; try with_reducible rfl)
          try simp only [Act.put, List.setIfInBounds_toArray, List.set_cons_zero, List.set_cons_succ]
          refine take1 (i := 15) (d := some 75) (v := ?_) (by kernel_rfl) (by kernel_rfl) (by kernel_rfl) (by kernel_rfl) (fun _ _ _ h => h) ?_ hHeld ?_
          rotate_left
          · (intro o ho; simp only [List.getElem?_toArray, List.getElem?_cons_succ, List.getElem?_cons_zero, Option.some.injEq] at ho; subst ho; refine Or.inl ⟨by rfl, ?_⟩; intro w hSw; (try dsimp only at hSw); go_simp; try with_reducible rfl)
          try simp only [Act.put, List.setIfInBounds_toArray, List.set_cons_zero, List.set_cons_succ]
          refine call1 (i := 10) (d := some 70) (by kernel_rfl) (by kernel_rfl) ?_
          intro o ho hod K hK; simp only [List.getElem?_toArray, List.getElem?_cons_succ, List.getElem?_cons_zero, Option.some.injEq] at ho; subst ho
          go_simp
          obtain ⟨W6, hW6⟩ : ∃ W6, (w5.alloc (.cells #[.int .u8 (y : Int)] 5)).drew = W6 := ⟨_, rfl⟩
          have b6 : Below w5.heap.size w5 W6 := by rw [← hW6]; exact ((Below.refl _ _).alloc (Nat.le_refl _) _).drew
          have z6 : W6.heap.size = w5.heap.size + 1 := by rw [← hW6]; simp
          have hn6 : ∀ j u, [Value.int .u8 (y : Int)][j]? = some u → W6.cell? ((⟨w5.heap.size, 0, none⟩ : Addr).add j) = some u := by rw [← hW6]; exact cell_one_new w5 _ _
          have ho6 : W6.ownsRow w.heap.size 5 1 v5 q (win zs 0 q) := by rw [← hW6]; exact World.ownsRow.alloc (w := w5) ho5 _
          rw [hW6]
          clear hW6
          have c6 := (b6.cell (p := ⟨g, q, none⟩) (show g < w5.heap.size by omega)).trans hcz
          refine hK.out _ _ ⟨b6.mono hbase5, c6⟩ (fun hHeld => ?_)
          clear hK K
          try simp only [Act.put, List.setIfInBounds_toArray, List.set_cons_zero, List.set_cons_succ]
          refine call1 (i := 11) (d := some 71) (by kernel_rfl) (by kernel_rfl) ?_
          intro o ho hod K hK; simp only [List.getElem?_toArray, List.getElem?_cons_succ, List.getElem?_cons_zero, Option.some.injEq] at ho; subst ho
          rw [if_pos (by rfl)]
          refine wp_app_at _ _ _ (by rfl) w.heap.size 5 i0 _ 1 1 Tryd.underlying22 hi hz0 hz1 hz2 rfl (by decide) v5 q _ (by rfl) ho6 ⟨w5.heap.size, 0, none⟩ 1 1 [.int .u8 (y : Int)] (by rfl) (by rfl) hn6 (by intro u hu; simp at hu; subst hu; rfl) (by unfold maxLen; omega) (by omega) (by omega) ?_
          intro v7 w7 hown7 hgr7 hloc7
          have b7 : Below w.heap.size w5 w7 := (b6.mono hbase5).grown hgr7 (by omega) (fun k hk => (ho6.lt k hk).1)
          have z7 := b7.size
          have c7 := (b7.cell (p := ⟨g, q, none⟩) (show g < w.heap.size by omega)).trans hcz
          have HS7 := hid (HS5.out.below b7 hgw)
          refine hK.out _ _ ⟨b7, c7⟩ (fun hHeld => ?_)
          clear hK K
          try simp only [Act.put, List.setIfInBounds_toArray, List.set_cons_zero, List.set_cons_succ]
          refine call1 (i := 16) (d := some 76) (by kernel_rfl) (by kernel_rfl) ?_
          intro o ho hod K hK; simp only [List.getElem?_toArray, List.getElem?_cons_succ, List.getElem?_cons_zero, Option.some.injEq] at ho; subst ho
          rw [if_pos (by rfl)]
          refine wp_app_at _ _ _ (by rfl) w.heap.size 5 i0 _ 1 1 Tryd.underlying22 hi hz0 hz1 hz2 rfl (by decide) v7 (q + 1) _ (by rfl) hown7 _ (L - q1) _ (win zs (q1) (L - q1)) (by rfl) (win_len (by have := HL.out; have := HQ1.out; omega)) (win_cells HS7.out (by have := HL.out; have := HQ1.out; omega)) (win_one _ _ _) (by unfold maxLen; omega) (by omega) (by omega) ?_
          intro v8 w8 hown8 hgr8 hloc8
          have b8 : Below w.heap.size w5 w8 := b7.grown hgr8 (by omega) (fun k hk => (hown7.lt k hk).1)
          have c8 := (b8.cell (p := ⟨g, q, none⟩) (show g < w.heap.size by omega)).trans hcz
          refine hK.out _ _ ⟨b8, c8⟩ (fun hHeld => ?_)
          clear hK K
          try simp only [Act.put, List.setIfInBounds_toArray, List.set_cons_zero, List.set_cons_succ]
          refine take1 (i := 17) (d := some 4) (v := ?_) (by kernel_rfl) (by kernel_rfl) (by kernel_rfl) (by kernel_rfl) (fun _ _ _ h => h) ?_ hHeld ?_
          rotate_left
          · (intro o ho; simp only [List.getElem?_toArray, List.getElem?_cons_succ, List.getElem?_cons_zero, Option.some.injEq] at ho; subst ho; refine Or.inl ⟨by rfl, ?_⟩; intro w hSw; (try dsimp only at hSw); go_simp; try with_reducible rfl)
          try simp only [Act.put, List.setIfInBounds_toArray, List.set_cons_zero, List.set_cons_succ]
          refine wpAnyH_done (by kernel_rfl) ?_ _
          have R := hid (FIN.out v8 w8 ((zs.drop 0).take q ++ [(y : Int)] ++ (zs.drop (q1)).take (L - q1)) b8 (by
            have e1 : ((zs.drop 0).take q ++ [(y : Int)] ++ (zs.drop (q1)).take (L - q1)).length = q + 1 + (L - q1) := by have := HL.out; have := HQ1.out; simp; omega
            rw [e1, List.map_append, List.map_append]; exact hown8) (bys_win _ _ (fun z hz => by
              rcases List.mem_append.1 hz with h | h
              · exact HB0.out z h
              · simp at h; subst h; omega) HS5.out.2.2.2.2) (by have := HL.out; have := HQ1.out; simp; omega))
          clear hHeld
          go_wp2_with fail
          go_ret
          obtain ⟨r1, r2, r3, r4, r5, r6, r7⟩ := R.out
          first | exact ⟨r1, r2, r3, by have := HL.out; omega, r5, r6, r7⟩ | exact ⟨r1, r3, r2, by have := HL.out; omega, r5, r6, r7⟩
        · obtain rfl : c = q1 := by omega
          obtain rfl : L = c := by omega
          clear hq1e
          go_wp2_with fail
          refine wp_region_held_drew (S := fun w' => Below w.heap.size w5 w' ∧ w'.cell? ⟨g, q, none⟩ = some (.int .u8 (z : Int))) (by kernel_rfl) ⟨(Below.refl _ _).drew, hcz⟩ (fun hHeld => ?_)
          refine take1 (i := 0) (d := some 60) (v := ?_) (by kernel_rfl) (by kernel_rfl) (by kernel_rfl) (by kernel_rfl) (fun _ _ _ h => h) ?_ hHeld ?_
          rotate_left
          · (intro o ho; simp only [List.getElem?_toArray, List.getElem?_cons_succ, List.getElem?_cons_zero, Option.some.injEq] at ho; subst ho; refine Or.inl ⟨by rfl, ?_⟩; intro w hSw; (try dsimp only at hSw); go_simp; try with_reducible rfl)
          try simp only [Act.put, List.setIfInBounds_toArray, List.set_cons_zero, List.set_cons_succ]
          refine take1 (i := 1) (d := some 61) (v := ?_) (by kernel_rfl) (by kernel_rfl) (by kernel_rfl) (by kernel_rfl) (fun _ _ _ h => h) ?_ hHeld ?_
          rotate_left
          · (intro o ho; simp only [List.getElem?_toArray, List.getElem?_cons_succ, List.getElem?_cons_zero, Option.some.injEq] at ho; subst ho; refine Or.inl ⟨by rfl, ?_⟩; intro w hSw; (try dsimp only at hSw); go_simp; try with_reducible rfl)
          try simp only [Act.put, List.setIfInBounds_toArray, List.set_cons_zero, List.set_cons_succ]
          refine take1 (i := 2) (d := some 62) (v := ?_) (by kernel_rfl) (by kernel_rfl) (by kernel_rfl) (by kernel_rfl) (fun _ _ _ h => h) ?_ hHeld ?_
          rotate_left
          · (intro o ho; simp only [List.getElem?_toArray, List.getElem?_cons_succ, List.getElem?_cons_zero, Option.some.injEq] at ho; subst ho; refine Or.inl ⟨by rfl, ?_⟩; intro w hSw; (try dsimp only at hSw); go_simp; try with_reducible rfl)
          try simp only [Act.put, List.setIfInBounds_toArray, List.set_cons_zero, List.set_cons_succ]
          refine take1 (i := 3) (d := some 63) (v := ?_) (by kernel_rfl) (by kernel_rfl) (by kernel_rfl) (by kernel_rfl) (fun _ _ _ h => h) ?_ hHeld ?_
          rotate_left
          · (intro o ho; simp only [List.getElem?_toArray, List.getElem?_cons_succ, List.getElem?_cons_zero, Option.some.injEq] at ho; subst ho; refine Or.inl ⟨by rfl, ?_⟩; intro w hSw; (try dsimp only at hSw); go_simp; try with_reducible rfl)
          try simp only [Act.put, List.setIfInBounds_toArray, List.set_cons_zero, List.set_cons_succ]
          refine take1 (i := 4) (d := some 64) (v := ?_) (by kernel_rfl) (by kernel_rfl) (by kernel_rfl) (by kernel_rfl) (fun _ _ _ h => h) ?_ hHeld ?_
          rotate_left
          · (intro o ho; simp only [List.getElem?_toArray, List.getElem?_cons_succ, List.getElem?_cons_zero, Option.some.injEq] at ho; subst ho; refine Or.inl ⟨by rfl, ?_⟩; intro w hSw; (try dsimp only at hSw); go_simp; try with_reducible rfl)
          try simp only [Act.put, List.setIfInBounds_toArray, List.set_cons_zero, List.set_cons_succ]
          refine take1 (i := 5) (d := some 65) (v := ?_) (by kernel_rfl) (by kernel_rfl) (by kernel_rfl) (by kernel_rfl) (fun _ _ _ h => h) ?_ hHeld ?_
          rotate_left
          · (intro o ho; simp only [List.getElem?_toArray, List.getElem?_cons_succ, List.getElem?_cons_zero, Option.some.injEq] at ho; subst ho; refine Or.inl ⟨by rfl, ?_⟩; intro w hSw; (try dsimp only at hSw); go_simp; try with_reducible rfl)
          try simp only [Act.put, List.setIfInBounds_toArray, List.set_cons_zero, List.set_cons_succ]
          refine take1 (i := 6) (d := some 66) (v := ?_) (by kernel_rfl) (by kernel_rfl) (by kernel_rfl) (by kernel_rfl) (fun _ _ _ h => h) ?_ hHeld ?_
          rotate_left
          · (intro o ho; simp only [List.getElem?_toArray, List.getElem?_cons_succ, List.getElem?_cons_zero, Option.some.injEq] at ho; subst ho; refine Or.inl ⟨by rfl, ?_⟩; intro w hSw; (try dsimp only at hSw); go_simp; try with_reducible rfl)
          try simp only [Act.put, List.setIfInBounds_toArray, List.set_cons_zero, List.set_cons_succ]
          refine take1 (i := 7) (d := some 67) (v := ?_) (by kernel_rfl) (by kernel_rfl) (by kernel_rfl) (by kernel_rfl) (fun _ _ _ h => h) ?_ hHeld ?_
          rotate_left
          · (intro o ho; simp only [List.getElem?_toArray, List.getElem?_cons_succ, List.getElem?_cons_zero, Option.some.injEq] at ho; subst ho; refine Or.inl ⟨by rfl, ?_⟩; intro w hSw; (try dsimp only at hSw); go_simp; try with_reducible rfl)
          try simp only [Act.put, List.setIfInBounds_toArray, List.set_cons_zero, List.set_cons_succ]
          refine take1 (i := 8) (d := some 68) (v := ?_) (by kernel_rfl) (by kernel_rfl) (by kernel_rfl) (by kernel_rfl) (fun _ _ _ h => h) ?_ hHeld ?_
          rotate_left
          · (intro o ho; simp only [List.getElem?_toArray, List.getElem?_cons_succ, List.getElem?_cons_zero, Option.some.injEq] at ho; subst ho; refine Or.inl ⟨by rfl, ?_⟩; intro w hSw; (try dsimp only at hSw); go_simp; try with_reducible rfl)
          try simp only [Act.put, List.setIfInBounds_toArray, List.set_cons_zero, List.set_cons_succ]
          refine take1 (i := 9) (d := some 69) (v := ?_) (by kernel_rfl) (by kernel_rfl) (by kernel_rfl) (by kernel_rfl) (fun _ _ _ h => h) ?_ hHeld ?_
          rotate_left
          · (intro o ho; simp only [List.getElem?_toArray, List.getElem?_cons_succ, List.getElem?_cons_zero, Option.some.injEq] at ho; subst ho; refine Or.inl ⟨by rfl, ?_⟩; intro w hSw; (try dsimp only at hSw); go_simp; try with_reducible rfl)
          try simp only [Act.put, List.setIfInBounds_toArray, List.set_cons_zero, List.set_cons_succ]
          refine take1 (i := 12) (d := some 72) (v := ?_) (by kernel_rfl) (by kernel_rfl) (by kernel_rfl) (by kernel_rfl) (fun _ _ _ h => h) ?_ hHeld ?_
          rotate_left
          · (intro o ho; simp only [List.getElem?_toArray, List.getElem?_cons_succ, List.getElem?_cons_zero, Option.some.injEq] at ho; subst ho; refine Or.inl ⟨by rfl, ?_⟩; intro w hSw; (try dsimp only at hSw); go_simp; try with_reducible rfl)
          try simp only [Act.put, List.setIfInBounds_toArray, List.set_cons_zero, List.set_cons_succ]
          refine take1 (i := 13) (d := some 73) (v := ?_) (by kernel_rfl) (by kernel_rfl) (by kernel_rfl) (by kernel_rfl) (fun _ _ _ h => h) ?_ hHeld ?_
          rotate_left
          · (intro o ho; simp only [List.getElem?_toArray, List.getElem?_cons_succ, List.getElem?_cons_zero, Option.some.injEq] at ho; subst ho; refine Or.inl ⟨by rfl, ?_⟩; intro w hSw; (try dsimp only at hSw); go_simp; try with_reducible rfl)
          try simp only [Act.put, List.setIfInBounds_toArray, List.set_cons_zero, List.set_cons_succ]
          refine take1 (i := 14) (d := some 74) (v := ?_) (by kernel_rfl) (by kernel_rfl) (by kernel_rfl) (by kernel_rfl) (fun _ _ _ h => h) ?_ hHeld ?_
          rotate_left
          · (intro o ho; simp only [List.getElem?_toArray, List.getElem?_cons_succ, List.getElem?_cons_zero, Option.some.injEq] at ho; subst ho; refine Or.inl ⟨by rfl, ?_⟩; intro w hSw; (try dsimp only at hSw); go_simp; try with_reducible rfl)
          try simp only [Act.put, List.setIfInBounds_toArray, List.set_cons_zero, List.set_cons_succ]
          refine take1 (i := 15) (d := some 75) (v := ?_) (by kernel_rfl) (by kernel_rfl) (by kernel_rfl) (by kernel_rfl) (fun _ _ _ h => h) ?_ hHeld ?_
          rotate_left
          · (intro o ho; simp only [List.getElem?_toArray, List.getElem?_cons_succ, List.getElem?_cons_zero, Option.some.injEq] at ho; subst ho; refine Or.inl ⟨by rfl, ?_⟩; intro w hSw; (try dsimp only at hSw); go_simp; try with_reducible rfl)
          try simp only [Act.put, List.setIfInBounds_toArray, List.set_cons_zero, List.set_cons_succ]
          refine call1 (i := 10) (d := some 70) (by kernel_rfl) (by kernel_rfl) ?_
          intro o ho hod K hK; simp only [List.getElem?_toArray, List.getElem?_cons_succ, List.getElem?_cons_zero, Option.some.injEq] at ho; subst ho
          go_simp
          obtain ⟨W6, hW6⟩ : ∃ W6, (w5.alloc (.cells #[.int .u8 (y : Int)] 5)).drew = W6 := ⟨_, rfl⟩
          have b6 : Below w5.heap.size w5 W6 := by rw [← hW6]; exact ((Below.refl _ _).alloc (Nat.le_refl _) _).drew
          have z6 : W6.heap.size = w5.heap.size + 1 := by rw [← hW6]; simp
          have hn6 : ∀ j u, [Value.int .u8 (y : Int)][j]? = some u → W6.cell? ((⟨w5.heap.size, 0, none⟩ : Addr).add j) = some u := by rw [← hW6]; exact cell_one_new w5 _ _
          have ho6 : W6.ownsRow w.heap.size 5 1 v5 q (win zs 0 q) := by rw [← hW6]; exact World.ownsRow.alloc (w := w5) ho5 _
          rw [hW6]
          clear hW6
          have c6 := (b6.cell (p := ⟨g, q, none⟩) (show g < w5.heap.size by omega)).trans hcz
          refine hK.out _ _ ⟨b6.mono hbase5, c6⟩ (fun hHeld => ?_)
          clear hK K
          try simp only [Act.put, List.setIfInBounds_toArray, List.set_cons_zero, List.set_cons_succ]
          refine call1 (i := 11) (d := some 71) (by kernel_rfl) (by kernel_rfl) ?_
          intro o ho hod K hK; simp only [List.getElem?_toArray, List.getElem?_cons_succ, List.getElem?_cons_zero, Option.some.injEq] at ho; subst ho
          rw [if_pos (by rfl)]
          refine wp_app_at _ _ _ (by rfl) w.heap.size 5 i0 _ 1 1 Tryd.underlying22 hi hz0 hz1 hz2 rfl (by decide) v5 q _ (by rfl) ho6 ⟨w5.heap.size, 0, none⟩ 1 1 [.int .u8 (y : Int)] (by rfl) (by rfl) hn6 (by intro u hu; simp at hu; subst hu; rfl) (by unfold maxLen; omega) (by omega) (by omega) ?_
          intro v7 w7 hown7 hgr7 hloc7
          have b7 : Below w.heap.size w5 w7 := (b6.mono hbase5).grown hgr7 (by omega) (fun k hk => (ho6.lt k hk).1)
          have z7 := b7.size
          have c7 := (b7.cell (p := ⟨g, q, none⟩) (show g < w.heap.size by omega)).trans hcz
          have HS7 := hid (HS5.out.below b7 hgw)
          refine hK.out _ _ ⟨b7, c7⟩ (fun hHeld => ?_)
          clear hK K
          try simp only [Act.put, List.setIfInBounds_toArray, List.set_cons_zero, List.set_cons_succ]
          refine call1 (i := 16) (d := some 76) (by kernel_rfl) (by kernel_rfl) ?_
          intro o ho hod K hK; simp only [List.getElem?_toArray, List.getElem?_cons_succ, List.getElem?_cons_zero, Option.some.injEq] at ho; subst ho
          rw [if_pos (by rfl)]
          refine wp_app_at _ _ _ (by rfl) w.heap.size 5 i0 _ 1 1 Tryd.underlying22 hi hz0 hz1 hz2 rfl (by decide) v7 (q + 1) _ (by rfl) hown7 _ 0 _ [] (by rfl) rfl (win_nil _ _) (by simp) (by unfold maxLen; omega) (by omega) (by omega) ?_
          intro v8 w8 hown8 hgr8 hloc8
          have b8 : Below w.heap.size w5 w8 := b7.grown hgr8 (by omega) (fun k hk => (hown7.lt k hk).1)
          have c8 := (b8.cell (p := ⟨g, q, none⟩) (show g < w.heap.size by omega)).trans hcz
          refine hK.out _ _ ⟨b8, c8⟩ (fun hHeld => ?_)
          clear hK K
          try simp only [Act.put, List.setIfInBounds_toArray, List.set_cons_zero, List.set_cons_succ]
          refine take1 (i := 17) (d := some 4) (v := ?_) (by kernel_rfl) (by kernel_rfl) (by kernel_rfl) (by kernel_rfl) (fun _ _ _ h => h) ?_ hHeld ?_
          rotate_left
          · (intro o ho; simp only [List.getElem?_toArray, List.getElem?_cons_succ, List.getElem?_cons_zero, Option.some.injEq] at ho; subst ho; refine Or.inl ⟨by rfl, ?_⟩; intro w hSw; (try dsimp only at hSw); go_simp; try with_reducible rfl)
          try simp only [Act.put, List.setIfInBounds_toArray, List.set_cons_zero, List.set_cons_succ]
          refine wpAnyH_done (by kernel_rfl) ?_ _
          have R := hid (FIN.out v8 w8 ((zs.drop 0).take q ++ [(y : Int)]) b8 (by
            have e1 : ((zs.drop 0).take q ++ [(y : Int)]).length = q + 1 := by have := HL.out; have := HQ1.out; simp; omega
            rw [e1, List.map_append]; simpa [win] using hown8) (fun z hz => by
              rcases List.mem_append.1 hz with h | h
              · exact HB0.out z h
              · simp at h; subst h; omega) (by have := HL.out; have := HQ1.out; simp; omega))
          clear hHeld
          go_wp2_with fail
          go_ret
          obtain ⟨r1, r2, r3, r4, r5, r6, r7⟩ := R.out
          first | exact ⟨r1, r2, r3, by have := HL.out; omega, r5, r6, r7⟩ | exact ⟨r1, r3, r2, by have := HL.out; omega, r5, r6, r7⟩
end Go.Proofs.YthkppnmnjboiaaaDoor
