import Derived.Test.YthkppnmnjboiaaaDoorFe
import Derived.Test.YthkppnmnjboiaaaDoorSg
import Derived.Deep.AppendLies
import Derived.Deep.QuietTactic
import Derived.BigQuiet
namespace Go.Proofs.YthkppnmnjboiaaaDoor
open Go.ChangeShapes Go.WideShapes Go.ChangeAt Go.RowKit
set_option linter.unusedVariables false

set_option linter.unusedSimpArgs false

theorem boxE {w1 : World} {B : Nat} {u0 u1 : Value} (x y : Value) (q0 : w1.cell? ⟨B, 0, none⟩ = some u0) (q1 : w1.cell? ⟨B, 1, none⟩ = some u1) :
    ((w1.setCell ⟨B, 0, none⟩ x).setCell ⟨B, 1, none⟩ y).cell? ⟨B, 0, none⟩ = some x ∧ ((w1.setCell ⟨B, 0, none⟩ x).setCell ⟨B, 1, none⟩ y).cell? ⟨B, 1, none⟩ = some y := by
  have a0 := World.cell?_setCell_same w1 ⟨B, 0, none⟩ x q0
  have a1 : (w1.setCell ⟨B, 0, none⟩ x).cell? ⟨B, 1, none⟩ = some u1 := (World.cell?_setCell_other _ _ _ _ (by simp)).trans q1
  exact ⟨(World.cell?_setCell_other _ _ _ _ (by simp)).trans a0, World.cell?_setCell_same _ _ _ a1⟩

theorem grownSetF (w : World) (p : Addr) (u : Value) : w.grownBy (w.setCell p u) (some p.block) :=
  ⟨rfl, rfl, rfl, by simp [World.setCell], fun k hk hne => Below.heap_setCell _ _ _ _ (fun e => hne (by rw [e]))⟩
theorem undrewG {w w1 : World} {r : Option Nat} (h : w.drew.grownBy w1 r) : w.grownBy w1 r := ⟨h.os, h.tape, h.output, h.size, h.block⟩
theorem own_payl {w : World} {B : Nat} {v : Value} {f : Nat → Int} {l : Nat} (h : Own w B v (payl f l)) (hn : v.ownBlock ≠ none) : ∃ g cap, v = .slice (some ⟨g, 0, none⟩) l cap ∧ B ≤ g ∧ g < w.heap.size := by
  have hlt := World.ownsRow.lt h
  obtain ⟨_, h2⟩ := h
  rcases h2 with ⟨rfl, _⟩ | ⟨g, cap, cur, rfl, hbg, hg, _⟩
  · exact absurd rfl hn
  · rw [payl_len]; exact ⟨g, cap, rfl, hbg, (hlt g rfl).2⟩
theorem payl_seg {w : World} {B g l cp : Nat} {f : Nat → Int} (h : Own w B (.slice (some ⟨g, 0, none⟩) l cp) (payl f l)) : Seg w (some ⟨g, 0, none⟩) l f := by
  obtain ⟨a, cap, e, s⟩ := h.any
  injection e with e1 e2 e3
  rw [payl_len] at s
  subst e1
  rcases s with s | ⟨b, off, e, hb, hc⟩
  · exact .inl s
  · refine .inr ⟨b, off, e, hb, fun i hi => ?_⟩
    rw [hc i hi]; simp [payl, List.getD, hi]
theorem news_at {w : World} {b off n at' l : Nat} {f : Nat → Int} (hc : ∀ i, i < n → w.cell? ⟨b, off + i, none⟩ = some (.int .u8 (f i))) (hl : at' + l ≤ n) :
    ∀ j u, (cells8 (fun i => f (at' + i)) l)[j]? = some u → w.cell? ((⟨b, off + at', none⟩ : Addr).add j) = some u := by
  intro j u hj
  have hj' : j < l := by have := (List.getElem?_eq_some_iff.1 hj).1; simpa [cells8] using this
  rw [cells8_get _ l j hj'] at hj
  have e : (Addr.add ⟨b, off + at', none⟩ j) = ⟨b, off + (at' + j), none⟩ := by
    by_cases h0 : j = 0
    · subst h0; simp [Addr.add]
    · simp [Addr.add, h0, Nat.add_assoc]
  rw [e, hc (at' + j) (by omega), hj]
theorem payl_own {w : World} {B : Nat} {v : Value} {f : Nat → Int} {l : Nat} {t : TypeId} (ht : t = 5) (h : w.ownsRow B t 1 v (0 + l) ([] ++ cells8 f l)) : Own w B v (payl f l) := by
  subst ht
  rw [Nat.zero_add, List.nil_append] at h
  unfold Own
  rw [payl_len]
  have e : (payl f l).map (Value.int .u8) = cells8 f l := by simp [payl, cells8]
  rw [e]; exact h
theorem frB_len {f : Nat → Int} (hf : Byt f) {n at' l : Nat} (h : headF f n = (0, at', l)) (ha : at' ≠ 0) : (frB (f 2) (fun i => f (at' + i)) l).length = at' + l + 4 := by
  rw [frB_read hf h ha]; simp [sum4]
theorem frB_byte {f : Nat → Int} (hf : Byt f) {n at' l : Nat} (h : headF f n = (0, at', l)) (ha : at' ≠ 0) : Byt (gz (frB (f 2) (fun i => f (at' + i)) l)) := by
  rw [frB_read hf h ha]
  refine gz_byte (fun z hz => ?_)
  rcases List.mem_append.1 hz with hz | hz
  · obtain ⟨i, _, rfl⟩ := List.mem_map.1 hz; exact hf i
  · have hV : 0 ≤ sumX f (at' + l) ∧ sumX f (at' + l) < 4294967296 := crc_u32 hf (at' + l)
    simp [sum4] at hz
    omega
theorem some_of {v : Value} {k j : Nat} (h : v.ownBlock = some k ∨ v.ownBlock = some j) : v.ownBlock ≠ none := by
  rcases h with h | h <;> rw [h] <;> simp

set_option maxRecDepth 100000 in
set_option maxHeartbeats 1000000 in
theorem l5FirstC (a : Option Addr) (n c : Nat) (f : Nat → Int) (w : World) (hn : n ≤ 4194304) (hnc : n ≤ c) (hcc : c ≤ 9223372036854775807) (hf : Byt f) (h : Seg w a n f) :
    Calls Tryd.prog 14 #[.slice a n c] w fun e w' => Below w.heap.size w w' ∧
      (((firstF f n).2 = 0 ∧ e = .returned (.tuple #[.int .i64 ((firstF f n).1 : Int), .int .i64 0, .agg #[.int .i64 0, .slice none 0 0]])) ∨
       ((firstF f n).1 = 0 ∧ (firstF f n).2 ≠ 0 ∧ ∃ v, e = .returned (.tuple #[.int .i64 0, .int .i64 ((firstF f n).2 : Int), .agg #[.int .i64 (f 2), v]]) ∧ Own w' w.heap.size v (payl (fun i => f ((headF f n).2.1 + i)) (headF f n).2.2))) := by
  obtain ⟨i0, hi, hz0, hz1, hz2⟩ := info_parts Tryd.infoByte
  obtain ⟨W, hW⟩ : ∃ W, w.alloc (.cells #[.int .i64 0, .slice none 0 0] 41) = W := ⟨_, rfl⟩
  have bW : Below w.heap.size w W := by rw [← hW]; exact (Below.refl _ _).alloc (Nat.le_refl _) _
  have HZ : Hid (W.heap.size = w.heap.size + 1) := by rw [← hW]; exact hid (by simp)
  have k0 : W.cell? ⟨w.heap.size, 0, none⟩ = some (.int .i64 0) := by rw [← hW]; simp
  have k1 : W.cell? ⟨w.heap.size, 1, none⟩ = some (.slice none 0 0) := by rw [← hW]; simp
  have l0 : W.frozen? ⟨w.heap.size, 0, none⟩ = false := by rw [← hW]; simp
  have l1 : W.frozen? ⟨w.heap.size, 1, none⟩ = false := by rw [← hW]; simp
  have HH := hid (l5HeadC a n c f W hn hf (h.below bW))
  have HS := hid (h.below bW)
  have HBW := hid bW
  have HF : Hid (firstF f n = if (headF f n).1 ≠ 0 then ((headF f n).1, 0) else if (headF f n).2.1 = 0 ∨ n < (headF f n).2.1 + (headF f n).2.2 + 4 then (0, 0) else if sumOk f ((headF f n).2.1 + (headF f n).2.2) (sumX f ((headF f n).2.1 + (headF f n).2.2)) then (0, (headF f n).2.1 + (headF f n).2.2 + 4) else (5, 0)) := hid rfl
  have HOK := hid (fun at' l => headF_ok hf (n := n) (at' := at') (l := l))
  obtain ⟨G, hG⟩ : ∃ G, headF f n = G := ⟨_, rfl⟩
  rw [hG] at HH HF HOK ⊢
  obtain ⟨fl, at', l⟩ := G
  dsimp only at HH HF ⊢
  clear h bW
  have HG := hid hG
  clear hG
  have hfl : fl ≤ 4 := by
    have := HG.out
    unfold headF at this
    split at this
    · injection this with e _; omega
    · split at this
      · injection this with e _; omega
      · split at this
        · injection this with e _; omega
        · split at this
          · injection this with e _; omega
          · split at this
            · injection this with e _; omega
            · split at this
              · injection this with e _; omega
              · injection this with e _; omega
  by_cases h1 : fl = 0
  · subst h1
    by_cases h2 : at' = 0
    · subst h2
      have HR : Hid (firstF f n = (0, 0)) := hid (by rw [HF.out]; simp)
      rw [HR.out]
      go_enter Tryd.func14, Tryd.ntmps14
      go_wp2_with fail
      try rw [hW]
      clear hW
      refine HH.out.mono ?_
      rintro e w1 ⟨rfl, b1⟩
      have bc := fun (i : Nat) => b1.cell (p := ⟨w.heap.size, i, none⟩) (show w.heap.size < W.heap.size by have := HZ.out; omega)
      have bf := fun (i : Nat) => b1.frozen (p := ⟨w.heap.size, i, none⟩) (show w.heap.size < W.heap.size by have := HZ.out; omega)
      have q0 := (bc 0).trans k0
      have q1 := (bc 1).trans k1
      have r0 := (bf 0).trans l0
      have r1 := (bf 1).trans l1
      have z1 := b1.size
      have HB1 := hid (HBW.out.trans (b1.mono (by have := HZ.out; omega)))
      have HS1 := hid (HS.out.below b1)
      clear b1 bc bf HH
      go_wp2_with fail
      have e01 := boxE (.int .i64 0) (.slice none 0 0) q0 q1
      have m0 := e01.1
      have m1 := e01.2
      refine bodyPost_ret (v := .tuple #[.int .i64 0, .int .i64 0, .agg #[.int .i64 0, .slice none 0 0]]) (by simp [results, Tryd.results14, go_sem, m0, m1]) rfl ?_
      exact ⟨(HB1.out.setCell (p := ⟨w.heap.size, 0, none⟩) (Nat.le_refl _) _).setCell (p := ⟨w.heap.size, 1, none⟩) (Nat.le_refl _) _, .inl ⟨by first | trivial | rfl, rfl⟩⟩
    · obtain ⟨o3, o0, o1, o2, o2', ol, oa, oe, oU⟩ := HOK.out at' l rfl h2
      have HOO := hid (And.intro o0 (And.intro o1 (And.intro oe oU)))
      clear o0 o1 oe oU
      have d2 : ((at' : Int) == 0) = false := by simp; omega
      have w1' : IntKind.i64.wrap ((at' : Int) + (l : Int)) = (at' : Int) + (l : Int) := by rw [IntKind.wrap_i64]; omega
      have w2' : IntKind.i64.wrap ((at' : Int) + (l : Int) + 4) = (at' : Int) + (l : Int) + 4 := by rw [IntKind.wrap_i64]; omega
      by_cases h3 : n < at' + l + 4
      · have HR : Hid (firstF f n = (0, 0)) := hid (by rw [HF.out, if_neg (by simp), if_pos (.inr h3)])
        have d3 : decide ((n : Int) < (at' : Int) + (l : Int) + 4) = true := by simp; omega
        rw [HR.out]
        go_enter Tryd.func14, Tryd.ntmps14
        go_wp2_with fail
        try rw [hW]
        clear hW
        refine HH.out.mono ?_
        rintro e w1 ⟨rfl, b1⟩
        have bc := fun (i : Nat) => b1.cell (p := ⟨w.heap.size, i, none⟩) (show w.heap.size < W.heap.size by have := HZ.out; omega)
        have bf := fun (i : Nat) => b1.frozen (p := ⟨w.heap.size, i, none⟩) (show w.heap.size < W.heap.size by have := HZ.out; omega)
        have q0 := (bc 0).trans k0
        have q1 := (bc 1).trans k1
        have r0 := (bf 0).trans l0
        have r1 := (bf 1).trans l1
        have z1 := b1.size
        have HB1 := hid (HBW.out.trans (b1.mono (by have := HZ.out; omega)))
        have HS1 := hid (HS.out.below b1)
        clear b1 bc bf HH
        go_wp2_with fail
        have e01 := boxE (.int .i64 0) (.slice none 0 0) q0 q1
        have m0 := e01.1
        have m1 := e01.2
        refine bodyPost_ret (v := .tuple #[.int .i64 0, .int .i64 0, .agg #[.int .i64 0, .slice none 0 0]]) (by simp [results, Tryd.results14, go_sem, m0, m1]) rfl ?_
        exact ⟨(HB1.out.setCell (p := ⟨w.heap.size, 0, none⟩) (Nat.le_refl _) _).setCell (p := ⟨w.heap.size, 1, none⟩) (Nat.le_refl _) _, .inl ⟨by first | trivial | rfl, rfl⟩⟩
      · have d3 : decide ((n : Int) < (at' : Int) + (l : Int) + 4) = false := by simp; omega
        rcases HS.out with hS0 | ⟨b, off, rfl, hb, hc⟩
        · omega
        have HCL : Hid (∀ i, i < n → W.cell? ⟨b, off + i, none⟩ = some (.int .u8 (f i))) := hid hc
        clear hc
        go_enter Tryd.func14, Tryd.ntmps14
        go_wp2_with fail
        try rw [hW]
        clear hW
        refine HH.out.mono ?_
        rintro e w1 ⟨rfl, b1⟩
        have bc := fun (i : Nat) => b1.cell (p := ⟨w.heap.size, i, none⟩) (show w.heap.size < W.heap.size by have := HZ.out; omega)
        have bf := fun (i : Nat) => b1.frozen (p := ⟨w.heap.size, i, none⟩) (show w.heap.size < W.heap.size by have := HZ.out; omega)
        have q0 := (bc 0).trans k0
        have q1 := (bc 1).trans k1
        have r0 := (bf 0).trans l0
        have r1 := (bf 1).trans l1
        have z1 := b1.size
        have HB1 := hid (HBW.out.trans (b1.mono (by have := HZ.out; omega)))
        have HS1 := hid (HS.out.below b1)
        clear b1 bc bf HH
        go_wp2_with fail
        obtain ⟨w2, hw2⟩ : ∃ w2, w1.alloc (.cells #[] 5) = w2 := ⟨_, rfl⟩
        have b2 : Below w1.heap.size w1 w2 := by rw [← hw2]; exact (Below.refl _ _).alloc (Nat.le_refl _) _
        have HZ2 : Hid (w2.heap.size = w1.heap.size + 1) := by rw [← hw2]; exact hid (by simp)
        have emp : Own w2 w.heap.size (.slice (some ⟨w1.heap.size, 0, none⟩) 0 0) [] := by rw [← hw2]; exact own_lit0 w1 _ HB1.out.size
        have HCL2 : Hid (∀ i, i < n → w2.cell? ⟨b, off + i, none⟩ = some (.int .u8 (f i))) := by
          rcases HS1.out with h' | ⟨b', off', e', hb', hc'⟩
          · omega
          · injection e' with e'; injection e' with e1 e2 _
            subst e1 e2
            exact hid fun i hi => (b2.cell (p := ⟨b, off + i, none⟩) hb').trans (hc' i hi)
        have hb1 : b < w1.heap.size := by omega
        have c2 := HCL2.out 2 (by omega)
        have HB2 := hid (keepS HB1.out b2)
        have x0 := (b2.cell (p := ⟨w.heap.size, 0, none⟩) (show w.heap.size < w1.heap.size by have := HZ.out; omega)).trans q0
        have x1 := (b2.cell (p := ⟨w.heap.size, 1, none⟩) (show w.heap.size < w1.heap.size by have := HZ.out; omega)).trans q1
        have y0 := (b2.frozen (p := ⟨w.heap.size, 0, none⟩) (show w.heap.size < w1.heap.size by have := HZ.out; omega)).trans r0
        have y1 := (b2.frozen (p := ⟨w.heap.size, 1, none⟩) (show w.heap.size < w1.heap.size by have := HZ.out; omega)).trans r1
        have HEM := hid emp
        clear b2 emp q0 q1 r0 r1
        try rw [hw2]
        clear hw2
        have g0 : (0 : Int) ≤ (at' : Int) := Int.natCast_nonneg _
        have g1 : (at' : Int) ≤ (at' : Int) + (l : Int) := by omega
        have g2 : (at' : Int) + (l : Int) ≤ (c : Int) := by omega
        have g3 : at' < c := by omega
        have n2 : (2 : Int) < (n : Int) := by omega
        have o2w : IntKind.i64.wrap (f 2) = f 2 := by rw [IntKind.wrap_i64]; omega
        have HSL : Hid (Value.slice (if c = at' then some ⟨b, off, none⟩ else some ⟨b, off + at', none⟩) (((at' : Int) + (l : Int)).toNat - at') (c - at') = Value.slice (some ⟨b, off + at', none⟩) l (c - at')) := by
          have e1 : ((at' : Int) + (l : Int)).toNat - at' = l := by omega
          have e2 : ¬ c = at' := by omega
          rw [e1, if_neg e2]; exact hid rfl
        refine wp_region_held_drew (S := fun w' => w'.cell? ⟨b, off + 2, none⟩ = some (.int .u8 (f 2))) (by kernel_rfl) c2 (fun hHeld => ?_)
        refine take1 (i := 0) (d := some 36) (v := ?_) (by kernel_rfl) (by kernel_rfl) (by kernel_rfl) (by kernel_rfl) (fun _ _ _ h => h) ?_ hHeld ?_
        rotate_left
        · (intro o ho; simp only [List.getElem?_toArray, List.getElem?_cons_succ, List.getElem?_cons_zero, Option.some.injEq] at ho; subst ho; refine Or.inl ⟨by rfl, ?_⟩; intro w hSw; (try dsimp only at hSw); go_simp; try with_reducible rfl)
        try simp only [Act.put, List.setIfInBounds_toArray, List.set_cons_zero, List.set_cons_succ]
        refine take1 (i := 1) (d := some 37) (v := ?_) (by kernel_rfl) (by kernel_rfl) (by kernel_rfl) (by kernel_rfl) (fun _ _ _ h => h) ?_ hHeld ?_
        rotate_left
        · (intro o ho; simp only [List.getElem?_toArray, List.getElem?_cons_succ, List.getElem?_cons_zero, Option.some.injEq] at ho; subst ho; refine Or.inl ⟨by rfl, ?_⟩; intro w hSw; (try dsimp only at hSw); go_simp; try with_reducible rfl)
        try simp only [Act.put, List.setIfInBounds_toArray, List.set_cons_zero, List.set_cons_succ]
        refine take1 (i := 2) (d := some 38) (v := ?_) (by kernel_rfl) (by kernel_rfl) (by kernel_rfl) (by kernel_rfl) (fun _ _ _ h => h) ?_ hHeld ?_
        rotate_left
        · (intro o ho; simp only [List.getElem?_toArray, List.getElem?_cons_succ, List.getElem?_cons_zero, Option.some.injEq] at ho; subst ho; refine Or.inl ⟨by rfl, ?_⟩; intro w hSw; (try dsimp only at hSw); go_simp; try with_reducible rfl)
        try simp only [Act.put, List.setIfInBounds_toArray, List.set_cons_zero, List.set_cons_succ]
        refine take1 (i := 3) (d := some 39) (v := ?_) (by kernel_rfl) (by kernel_rfl) (by kernel_rfl) (by kernel_rfl) (fun _ _ _ h => h) ?_ hHeld ?_
        rotate_left
        · (intro o ho; simp only [List.getElem?_toArray, List.getElem?_cons_succ, List.getElem?_cons_zero, Option.some.injEq] at ho; subst ho; refine Or.inl ⟨by rfl, ?_⟩; intro w hSw; (try dsimp only at hSw); go_simp; try with_reducible rfl)
        try simp only [Act.put, List.setIfInBounds_toArray, List.set_cons_zero, List.set_cons_succ]
        refine take1 (i := 4) (d := some 40) (v := ?_) (by kernel_rfl) (by kernel_rfl) (by kernel_rfl) (by kernel_rfl) (fun _ _ _ h => h) ?_ hHeld ?_
        rotate_left
        · (intro o ho; simp only [List.getElem?_toArray, List.getElem?_cons_succ, List.getElem?_cons_zero, Option.some.injEq] at ho; subst ho; refine Or.inl ⟨by rfl, ?_⟩; intro w hSw; (try dsimp only at hSw); go_simp; try with_reducible rfl)
        try simp only [Act.put, List.setIfInBounds_toArray, List.set_cons_zero, List.set_cons_succ]
        refine take1 (i := 5) (d := some 41) (v := ?_) (by kernel_rfl) (by kernel_rfl) (by kernel_rfl) (by kernel_rfl) (fun _ _ _ h => h) ?_ hHeld ?_
        rotate_left
        · (intro o ho; simp only [List.getElem?_toArray, List.getElem?_cons_succ, List.getElem?_cons_zero, Option.some.injEq] at ho; subst ho; refine Or.inl ⟨by rfl, ?_⟩; intro w hSw; (try dsimp only at hSw); go_simp; try with_reducible rfl)
        try simp only [Act.put, List.setIfInBounds_toArray, List.set_cons_zero, List.set_cons_succ]
        refine take1 (i := 6) (d := some 42) (v := ?_) (by kernel_rfl) (by kernel_rfl) (by kernel_rfl) (by kernel_rfl) (fun _ _ _ h => h) ?_ hHeld ?_
        rotate_left
        · (intro o ho; simp only [List.getElem?_toArray, List.getElem?_cons_succ, List.getElem?_cons_zero, Option.some.injEq] at ho; subst ho; refine Or.inl ⟨by rfl, ?_⟩; intro w hSw; (try dsimp only at hSw); go_simp; try with_reducible rfl)
        try simp only [Act.put, List.setIfInBounds_toArray, List.set_cons_zero, List.set_cons_succ]
        refine take1 (i := 7) (d := some 43) (v := ?_) (by kernel_rfl) (by kernel_rfl) (by kernel_rfl) (by kernel_rfl) (fun _ _ _ h => h) ?_ hHeld ?_
        rotate_left
        · (intro o ho; simp only [List.getElem?_toArray, List.getElem?_cons_succ, List.getElem?_cons_zero, Option.some.injEq] at ho; subst ho; refine Or.inl ⟨by rfl, ?_⟩; intro w hSw; (try dsimp only at hSw); go_simp; try with_reducible rfl)
        try simp only [Act.put, List.setIfInBounds_toArray, List.set_cons_zero, List.set_cons_succ]
        refine take1 (i := 8) (d := some 44) (v := ?_) (by kernel_rfl) (by kernel_rfl) (by kernel_rfl) (by kernel_rfl) (fun _ _ _ h => h) ?_ hHeld ?_
        rotate_left
        · (intro o ho; simp only [List.getElem?_toArray, List.getElem?_cons_succ, List.getElem?_cons_zero, Option.some.injEq] at ho; subst ho; refine Or.inl ⟨by rfl, ?_⟩; intro w hSw; (try dsimp only at hSw); go_simp; try with_reducible rfl)
        try simp only [Act.put, List.setIfInBounds_toArray, List.set_cons_zero, List.set_cons_succ]
        refine take1 (i := 9) (d := some 45) (v := ?_) (by kernel_rfl) (by kernel_rfl) (by kernel_rfl) (by kernel_rfl) (fun _ _ _ h => h) ?_ hHeld ?_
        rotate_left
        · (intro o ho; simp only [List.getElem?_toArray, List.getElem?_cons_succ, List.getElem?_cons_zero, Option.some.injEq] at ho; subst ho; refine Or.inl ⟨by rfl, ?_⟩; intro w hSw; (try dsimp only at hSw); go_simp; try with_reducible rfl)
        try simp only [Act.put, List.setIfInBounds_toArray, List.set_cons_zero, List.set_cons_succ]
        refine take1 (i := 10) (d := some 46) (v := ?_) (by kernel_rfl) (by kernel_rfl) (by kernel_rfl) (by kernel_rfl) (fun _ _ _ h => h) ?_ hHeld ?_
        rotate_left
        · (intro o ho; simp only [List.getElem?_toArray, List.getElem?_cons_succ, List.getElem?_cons_zero, Option.some.injEq] at ho; subst ho; refine Or.inl ⟨by rfl, ?_⟩; intro w hSw; (try dsimp only at hSw); go_simp; try with_reducible rfl)
        try simp only [Act.put, List.setIfInBounds_toArray, List.set_cons_zero, List.set_cons_succ]
        refine ready2 (i := 11) (j := 13) (d := some 47) (d' := some 9) (by kernel_rfl) (by kernel_rfl) (by kernel_rfl) ?_ ?_
        · intro o ho hod K hK; simp only [List.getElem?_toArray, List.getElem?_cons_succ, List.getElem?_cons_zero, Option.some.injEq] at ho; subst ho
          rw [if_pos (by rfl)]
          refine wp_app_at _ _ 22 (by rfl) w.heap.size 5 i0 (.int .u8 0) 1 1 Tryd.underlying22 hi hz0 hz1 hz2 rfl (by decide) (.slice (some ⟨w1.heap.size, 0, none⟩) 0 0) 0 [] (by rfl) HEM.out ⟨b, off + at', none⟩ l (c - at') (cells8 (fun i => f (at' + i)) l) (by rw [← HSL.out]; rfl) (by simp [cells8]) (news_at HCL2.out (by omega)) (fun u hu => by obtain ⟨i, _, rfl⟩ := List.mem_map.1 hu; rfl) (by unfold maxLen; omega) (by omega) (by have := HB2.out.size; exact this) ?_
          intro v3 w3 hown3 hgr3 hloc3
          replace hgr3 := undrewG hgr3
          have o3 := payl_own rfl hown3
          obtain ⟨g3, cp3, rfl, hg3, hg3'⟩ := own_payl o3 (some_of hloc3)
          have hg1 : w1.heap.size ≤ g3 := by
            rcases hloc3 with h | h
            · simp [Value.ownBlock] at h; omega
            · have h' : (Value.slice (some ⟨g3, 0, none⟩) l cp3).ownBlock = some w2.heap.size := h
              simp [Value.ownBlock] at h'; have := HZ2.out; omega
          have B3 : Below w1.heap.size w2 w3 := (Below.refl _ w2).grown hgr3 (by have := HZ2.out; omega) (fun q hq => by simp [Value.ownBlock] at hq; omega)
          refine hK.out _ _ ((B3.cell (p := ⟨b, off + 2, none⟩) hb1).trans c2) (fun hHeld => ?_)
          clear hK K
          try simp only [Act.put, List.setIfInBounds_toArray, List.set_cons_zero, List.set_cons_succ]
          clear hown3 hgr3 hloc3
          refine take1 (i := 12) (d := some 48) (v := ?_) (by kernel_rfl) (by kernel_rfl) (by kernel_rfl) (by kernel_rfl) (fun _ _ _ h => h) ?_ hHeld ?_
          rotate_left
          · (intro o ho; simp only [List.getElem?_toArray, List.getElem?_cons_succ, List.getElem?_cons_zero, Option.some.injEq] at ho; subst ho; refine Or.inl ⟨by rfl, ?_⟩; intro w hSw; (try dsimp only at hSw); go_simp; try with_reducible rfl)
          try simp only [Act.put, List.setIfInBounds_toArray, List.set_cons_zero, List.set_cons_succ]
          refine call1 (i := 13) (d := some 9) (by kernel_rfl) (by kernel_rfl) ?_
          intro o ho hod K hK; simp only [List.getElem?_toArray, List.getElem?_cons_succ, List.getElem?_cons_zero, Option.some.injEq] at ho; subst ho
          go_simp
          obtain ⟨Bx, hBx⟩ : ∃ Bx, w3.heap.size = Bx := ⟨_, rfl⟩
          obtain ⟨w4, hw4⟩ : ∃ w4, w3.alloc (.cells #[.int .i64 0, .slice none 0 0] 41) = w4 := ⟨_, rfl⟩
          have n0 : w4.cell? ⟨Bx, 0, none⟩ = some (.int .i64 0) := by rw [← hw4, ← hBx]; simp
          have n1 : w4.cell? ⟨Bx, 1, none⟩ = some (.slice none 0 0) := by rw [← hw4, ← hBx]; simp
          have p0 : w4.frozen? ⟨Bx, 0, none⟩ = false := by rw [← hw4, ← hBx]; simp
          have p1 : w4.frozen? ⟨Bx, 1, none⟩ = false := by rw [← hw4, ← hBx]; simp
          have B4 : Below w1.heap.size w2 w4 := by rw [← hw4]; exact B3.alloc (by have := HZ2.out; have := B3.size; omega) _
          have o4 : Own w4 w.heap.size (.slice (some ⟨g3, 0, none⟩) l cp3) (payl (fun i => f (at' + i)) l) := by rw [← hw4]; exact World.ownsRow.alloc o3 _
          have hBw : w1.heap.size < Bx := by have := HZ2.out; have := B3.size; omega
          have hne : g3 ≠ Bx := by omega
          have hBz : Bx < w4.heap.size := by rw [← hw4, ← hBx]; simp
          try rw [hw4]
          try rw [hBx]
          clear hw4 hBx
          refine hK.out _ _ ((B4.cell (p := ⟨b, off + 2, none⟩) hb1).trans c2) (fun hHeld => ?_)
          clear hK K
          try simp only [Act.put, List.setIfInBounds_toArray, List.set_cons_zero, List.set_cons_succ]
          refine call1 (i := 14) (d := none) (by kernel_rfl) (by kernel_rfl) ?_
          intro o ho hod K hK; simp only [List.getElem?_toArray, List.getElem?_cons_succ, List.getElem?_cons_zero, Option.some.injEq] at ho; subst ho
          go_simp
          obtain ⟨W5, hW5⟩ : ∃ W5, (w4.setCell ⟨Bx, 0, none⟩ (.int .i64 (f 2))).setCell ⟨Bx, 1, none⟩ (.slice (some ⟨g3, 0, none⟩) l cp3) = W5 := ⟨_, rfl⟩
          have e01 := boxE (.int .i64 (f 2)) (.slice (some ⟨g3, 0, none⟩) l cp3) n0 n1
          rw [hW5] at e01
          have m0 := e01.1
          have m1 := e01.2
          have B5 : Below w1.heap.size w2 W5 := by rw [← hW5]; exact (B4.setCell (p := ⟨Bx, 0, none⟩) (by show _ ≤ Bx; omega) _).setCell (p := ⟨Bx, 1, none⟩) (by show _ ≤ Bx; omega) _
          have O5 : Own W5 w.heap.size (.slice (some ⟨g3, 0, none⟩) l cp3) (payl (fun i => f (at' + i)) l) := by
            rw [← hW5]
            have ng : ∀ g, (Value.slice (some ⟨g3, 0, none⟩) l cp3).ownBlock = Option.some g → Option.some g ≠ Option.some Bx := fun g hg e => by simp [Value.ownBlock] at hg; injection e with e; omega
            exact (o4.gr (grownSetF _ ⟨Bx, 0, none⟩ _) ng).gr (grownSetF _ ⟨Bx, 1, none⟩ _) ng
          have zBx : Bx < W5.heap.size := by rw [← hW5]; simp [World.setCell]; exact hBz
          try rw [hW5]
          refine hK.out _ _ ((B5.cell (p := ⟨b, off + 2, none⟩) hb1).trans c2) (fun hHeld => ?_)
          clear hK K
          try simp only [Act.put, List.setIfInBounds_toArray, List.set_cons_zero, List.set_cons_succ]
          refine wpAnyH_done (by kernel_rfl) ?_ _
          clear hHeld hW5 e01 n0 n1 p0 p1 o4 B4 B3
          have zW : w.heap.size < w1.heap.size := by have := HZ.out; omega
          have X0 := (B5.cell (p := ⟨w.heap.size, 0, none⟩) zW).trans x0
          have X1 := (B5.cell (p := ⟨w.heap.size, 1, none⟩) zW).trans x1
          have Y0 := (B5.frozen (p := ⟨w.heap.size, 0, none⟩) zW).trans y0
          have Y1 := (B5.frozen (p := ⟨w.heap.size, 1, none⟩) zW).trans y1
          have HB5 := hid (HB2.out.trans (B5.mono (Nat.le_of_lt zW)))
          have HP := hid (specPFc g3 l cp3 (f 2) (fun i => f (at' + i)) W5 (by omega) (by omega) (by omega) (fun i => hf _) (payl_seg O5))
          have HO5 := hid O5
          have HC5 : Hid (∀ i, i < n → W5.cell? ⟨b, off + i, none⟩ = some (.int .u8 (f i))) := hid fun i hi => (B5.cell (p := ⟨b, off + i, none⟩) hb1).trans (HCL2.out i hi)
          have zW5 := B5.size
          have hk2 : okF (f 2) l = true := by simp [okF]; omega
          have HFZ : Hid (frZ (f 2) (fun i => f (at' + i)) l = frB (f 2) (fun i => f (at' + i)) l) := by unfold frZ; rw [hk2]; exact hid rfl
          have HLN := hid (frB_len hf HG.out h2)
          have hfz := frB_byte hf HG.out h2
          have HSU := hid (sumOk_iff hf HG.out h2)
          have HHF := hid hf
          have zg : g3 < W5.heap.size := (World.ownsRow.lt O5 g3 rfl).2
          clear x0 x1 y0 y1 B5 O5 c2 hf
          rw [hk2, HFZ.out] at HP
          obtain ⟨zs, hzs⟩ : ∃ zs, frB (f 2) (fun i => f (at' + i)) l = zs := ⟨_, rfl⟩
          rw [hzs] at HP HLN hfz HSU
          clear HFZ hzs hk2
          go_wp2_with fail
          refine HP.out.mono ?_
          rintro e w6 ⟨v6, rfl, o6, b6⟩
          obtain ⟨g6, c6, rfl, _, _, _, _, _, s6⟩ := o6.shape (fun e => by have := HLN.out; rw [e] at this; simp at this)
          replace m0 := (b6.cell (p := ⟨Bx, 0, none⟩) zBx).trans m0
          replace m1 := (b6.cell (p := ⟨Bx, 1, none⟩) zBx).trans m1
          have zz : w.heap.size < W5.heap.size := by omega
          replace X0 := (b6.cell (p := ⟨w.heap.size, 0, none⟩) zz).trans X0
          replace X1 := (b6.cell (p := ⟨w.heap.size, 1, none⟩) zz).trans X1
          replace Y0 := (b6.frozen (p := ⟨w.heap.size, 0, none⟩) zz).trans Y0
          replace Y1 := (b6.frozen (p := ⟨w.heap.size, 1, none⟩) zz).trans Y1
          have HB6 := hid (HB5.out.trans (b6.mono (Nat.le_of_lt zz)))
          have HO6 : Hid (Own w6 w.heap.size (.slice (some ⟨g3, 0, none⟩) l cp3) (payl (fun i => f (at' + i)) l)) := hid (HO5.out.kept b6 (fun k hk => (World.ownsRow.lt HO5.out k hk).2))
          rcases s6 with h0 | ⟨gb, goff, e6, hgb, hgc⟩
          · have := HLN.out; omega
          injection e6 with e6
          injection e6 with e61 e62 _
          subst e61 e62
          have hcv1 : ∀ k cap, (convert 22 9 (.slice (some ⟨g6, 0, none⟩) zs.length cap)).run Tryd.prog (w6.drewN k) = .ok (.string (strG (gz zs) 0 zs.length)) (w6.drewN k) := fun k cap => strG_conv 0 hfz (fun i hi => by have := hgc i hi; simp only [Nat.zero_add] at this ⊢; exact this)
          have hcv2 : ∀ k cap, (convert 22 9 (.slice (some ⟨b, off, none⟩) (at' + l + 4) cap)).run Tryd.prog (w6.drewN k) = .ok (.string (strG f 0 (at' + l + 4))) (w6.drewN k) := fun k cap => strG_conv 0 HHF.out (fun i hi => by
            have := (b6.cell (p := ⟨b, off + i, none⟩) (show b < W5.heap.size by omega)).trans (HC5.out i (by omega))
            rw [Nat.zero_add]; exact this)
          have HIFF := hid (strG_eq (p := 0) (q := 0) (L := zs.length) (M := at' + l + 4) hfz HHF.out)
          obtain ⟨S1, hS1⟩ : ∃ S1, strG (gz zs) 0 zs.length = S1 := ⟨_, rfl⟩
          obtain ⟨S2, hS2⟩ : ∃ S2, strG f 0 (at' + l + 4) = S2 := ⟨_, rfl⟩
          rw [hS1] at hcv1 HIFF
          rw [hS2] at hcv2 HIFF
          clear hS1 hS2 b6 o6 hgc HP hfz
          obtain ⟨L, hL⟩ : ∃ L, zs.length = L := ⟨_, rfl⟩
          rw [hL] at hcv1 HLN HIFF ⊢
          clear hL
          have q0 : (0 : Int) ≤ (at' : Int) + (l : Int) + 4 := by omega
          have q1 : (at' : Int) + (l : Int) + 4 ≤ (c : Int) := by omega
          have q2 : ((at' : Int) + (l : Int) + 4).toNat = at' + l + 4 := by omega
          by_cases hsame : S1 = S2
          · have hd : (S1.toList == S2.toList) = true := by rw [hsame]; simp
            have HAT := hid (HIFF.out.1 hsame)
            clear hsame
            go_wp2_with fail
            go_quiet (fail)
            go_wp2_with fail
            have m0' : (w6.drewN nq).cell? ⟨Bx, 0, none⟩ = some (.int .i64 (f 2)) := m0
            have m1' : (w6.drewN nq).cell? ⟨Bx, 1, none⟩ = some (.slice (some ⟨g3, 0, none⟩) l cp3) := m1
            refine wp_region_held_drew (S := fun w' => w'.cell? ⟨Bx, 0, none⟩ = some (.int .i64 (f 2)) ∧ w'.cell? ⟨Bx, 1, none⟩ = some (.slice (some ⟨g3, 0, none⟩) l cp3)) (by kernel_rfl) ⟨m0', m1'⟩ (fun hHeld => ?_)
            refine take1 (i := 0) (d := some 65) (v := ?_) (by kernel_rfl) (by kernel_rfl) (by kernel_rfl) (by kernel_rfl) (fun _ _ _ h => h) ?_ hHeld ?_
            rotate_left
            · (intro o ho; simp only [List.getElem?_toArray, List.getElem?_cons_succ, List.getElem?_cons_zero, Option.some.injEq] at ho; subst ho; refine Or.inl ⟨by rfl, ?_⟩; intro w hSw; (try dsimp only at hSw); go_simp; try with_reducible rfl)
            try simp only [Act.put, List.setIfInBounds_toArray, List.set_cons_zero, List.set_cons_succ]
            refine take1 (i := 1) (d := some 66) (v := ?_) (by kernel_rfl) (by kernel_rfl) (by kernel_rfl) (by kernel_rfl) (fun _ _ _ h => h) ?_ hHeld ?_
            rotate_left
            · (intro o ho; simp only [List.getElem?_toArray, List.getElem?_cons_succ, List.getElem?_cons_zero, Option.some.injEq] at ho; subst ho; refine Or.inl ⟨by rfl, ?_⟩; intro w hSw; (try dsimp only at hSw); go_simp; try with_reducible rfl)
            try simp only [Act.put, List.setIfInBounds_toArray, List.set_cons_zero, List.set_cons_succ]
            refine take1 (i := 2) (d := some 67) (v := ?_) (by kernel_rfl) (by kernel_rfl) (by kernel_rfl) (by kernel_rfl) (fun _ _ _ h => h) ?_ hHeld ?_
            rotate_left
            · (intro o ho; simp only [List.getElem?_toArray, List.getElem?_cons_succ, List.getElem?_cons_zero, Option.some.injEq] at ho; subst ho; refine Or.inl ⟨by rfl, ?_⟩; intro w hSw; (try dsimp only at hSw); go_simp; try with_reducible rfl)
            try simp only [Act.put, List.setIfInBounds_toArray, List.set_cons_zero, List.set_cons_succ]
            refine take1 (i := 3) (d := some 68) (v := ?_) (by kernel_rfl) (by kernel_rfl) (by kernel_rfl) (by kernel_rfl) (fun _ _ _ h => h) ?_ hHeld ?_
            rotate_left
            · (intro o ho; simp only [List.getElem?_toArray, List.getElem?_cons_succ, List.getElem?_cons_zero, Option.some.injEq] at ho; subst ho; refine Or.inl ⟨by rfl, ?_⟩; intro w hSw; (try dsimp only at hSw); go_simp; try with_reducible rfl)
            try simp only [Act.put, List.setIfInBounds_toArray, List.set_cons_zero, List.set_cons_succ]
            refine take1 (i := 4) (d := some 69) (v := ?_) (by kernel_rfl) (by kernel_rfl) (by kernel_rfl) (by kernel_rfl) (fun _ _ _ h => h) ?_ hHeld ?_
            rotate_left
            · (intro o ho; simp only [List.getElem?_toArray, List.getElem?_cons_succ, List.getElem?_cons_zero, Option.some.injEq] at ho; subst ho; refine Or.inl ⟨by rfl, ?_⟩; intro w hSw; (try dsimp only at hSw); go_simp; try with_reducible rfl)
            try simp only [Act.put, List.setIfInBounds_toArray, List.set_cons_zero, List.set_cons_succ]
            refine take1 (i := 5) (d := some 2) (v := ?_) (by kernel_rfl) (by kernel_rfl) (by kernel_rfl) (by kernel_rfl) (fun _ _ _ h => h) ?_ hHeld ?_
            rotate_left
            · (intro o ho; simp only [List.getElem?_toArray, List.getElem?_cons_succ, List.getElem?_cons_zero, Option.some.injEq] at ho; subst ho; refine Or.inl ⟨by rfl, ?_⟩; intro w hSw; (try dsimp only at hSw); go_simp; try with_reducible rfl)
            try simp only [Act.put, List.setIfInBounds_toArray, List.set_cons_zero, List.set_cons_succ]
            refine take1 (i := 6) (d := some 3) (v := ?_) (by kernel_rfl) (by kernel_rfl) (by kernel_rfl) (by kernel_rfl) (fun _ _ _ h => h) ?_ hHeld ?_
            rotate_left
            · (intro o ho; simp only [List.getElem?_toArray, List.getElem?_cons_succ, List.getElem?_cons_zero, Option.some.injEq] at ho; subst ho; refine Or.inl ⟨by rfl, ?_⟩; intro w hSw; (try dsimp only at hSw); go_simp; try with_reducible rfl)
            try simp only [Act.put, List.setIfInBounds_toArray, List.set_cons_zero, List.set_cons_succ]
            refine call1 (i := 7) (d := none) (by kernel_rfl) (by kernel_rfl) ?_
            intro o ho hod K hK; simp only [List.getElem?_toArray, List.getElem?_cons_succ, List.getElem?_cons_zero, Option.some.injEq] at ho; subst ho
            go_simp
            have e01 := boxE (w1 := w6.drewN (nq + 1)) (.int .i64 (f 2)) (.slice (some ⟨g3, 0, none⟩) l cp3) X0 X1
            have nb : ∀ (j : Nat) (i : Nat), (⟨w.heap.size, i, none⟩ : Addr) ≠ ⟨Bx, j, none⟩ := fun j i e => by injection e with e; omega
            have m0'' : (((w6.drewN (nq + 1)).setCell ⟨w.heap.size, 0, none⟩ (.int .i64 (f 2))).setCell ⟨w.heap.size, 1, none⟩ (.slice (some ⟨g3, 0, none⟩) l cp3)).cell? ⟨Bx, 0, none⟩ = some (.int .i64 (f 2)) :=
              ((grownSetF _ ⟨w.heap.size, 1, none⟩ _).cell ((grownSetF (w6.drewN (nq + 1)) ⟨w.heap.size, 0, none⟩ _).cell (a := ⟨Bx, 0, none⟩) m0 (by simp; omega)) (by simp; omega))
            have m1'' : (((w6.drewN (nq + 1)).setCell ⟨w.heap.size, 0, none⟩ (.int .i64 (f 2))).setCell ⟨w.heap.size, 1, none⟩ (.slice (some ⟨g3, 0, none⟩) l cp3)).cell? ⟨Bx, 1, none⟩ = some (.slice (some ⟨g3, 0, none⟩) l cp3) :=
              ((grownSetF _ ⟨w.heap.size, 1, none⟩ _).cell ((grownSetF (w6.drewN (nq + 1)) ⟨w.heap.size, 0, none⟩ _).cell (a := ⟨Bx, 1, none⟩) m1 (by simp; omega)) (by simp; omega))
            have HR : Hid (firstF f n = (0, at' + l + 4)) := by
              rw [HF.out, if_neg (by simp), if_neg (by omega), if_pos (HSU.out.2 (fun i hi => by have := HAT.out.2 i (by have := HLN.out; omega); simp only [Nat.zero_add] at this; exact this))]
              exact hid rfl
            have o7 : Own (w6.drewN (nq + 1)) w.heap.size (.slice (some ⟨g3, 0, none⟩) l cp3) (payl (fun i => f (at' + i)) l) := HO6.out
            have ng : ∀ g, (Value.slice (some ⟨g3, 0, none⟩) l cp3).ownBlock = Option.some g → Option.some g ≠ Option.some w.heap.size := fun g hg e => by simp [Value.ownBlock] at hg; injection e with e; omega
            have HO8 := hid ((o7.gr (grownSetF _ ⟨w.heap.size, 0, none⟩ (.int .i64 (f 2))) ng).gr (grownSetF _ ⟨w.heap.size, 1, none⟩ (.slice (some ⟨g3, 0, none⟩) l cp3)) ng)
            have HB8 := hid (((below_drewN HB6.out (nq + 1)).setCell (p := ⟨w.heap.size, 0, none⟩) (Nat.le_refl _) (.int .i64 (f 2))).setCell (p := ⟨w.heap.size, 1, none⟩) (Nat.le_refl _) (.slice (some ⟨g3, 0, none⟩) l cp3))
            refine hK.out _ _ ⟨m0'', m1''⟩ (fun hHeld => ?_)
            clear hK K
            try simp only [Act.put, List.setIfInBounds_toArray, List.set_cons_zero, List.set_cons_succ]
            refine wpAnyH_done (by kernel_rfl) ?_ _
            have M0 := e01.1
            have M1 := e01.2
            obtain ⟨W8, hW8⟩ : ∃ W8, ((w6.drewN (nq + 1)).setCell ⟨w.heap.size, 0, none⟩ (.int .i64 (f 2))).setCell ⟨w.heap.size, 1, none⟩ (.slice (some ⟨g3, 0, none⟩) l cp3) = W8 := ⟨_, rfl⟩
            rw [hW8] at M0 M1 HO8 HB8 ⊢
            clear hW8 hHeld m0'' m1'' e01 o7 m0' m1' m0 m1 X0 X1 Y0 Y1
            go_wp2_with fail
            refine bodyPost_ret (v := .tuple #[.int .i64 0, .int .i64 ((at' : Int) + (l : Int) + 4), .agg #[.int .i64 (f 2), .slice (some ⟨g3, 0, none⟩) l cp3]]) (by simp [results, Tryd.results14, go_sem, M0, M1]) rfl ?_
            refine ⟨HB8.out, .inr ?_⟩
            rw [HR.out]
            exact ⟨rfl, by simp, _, by push_cast; rfl, HO8.out⟩
          · have hd : (S1.toList == S2.toList) = false := by
              cases h : (S1.toList == S2.toList) with
              | false => rfl
              | true =>
                have h2 : S1.toList = S2.toList := by simpa using h
                rw [Go.ByteArray.toList_eq, Go.ByteArray.toList_eq] at h2
                exact absurd (by cases S1; cases S2; simp at h2; rw [h2]) hsame
            have HAT := hid (fun h => hsame (HIFF.out.2 h))
            clear hsame
            go_wp2_with fail
            go_quiet (fail)
            go_wp2_with fail
            have e01 := boxE (w1 := w6.drewN nq) (.int .i64 0) (.slice none 0 0) X0 X1
            have M0 := e01.1
            have M1 := e01.2
            have HR : Hid (firstF f n = (5, 0)) := by
              rw [HF.out, if_neg (by simp), if_neg (by omega), if_neg (fun h => HAT.out ⟨HLN.out, fun i hi => by have := HSU.out.1 h i (by have := HLN.out; omega); simp only [Nat.zero_add]; exact this⟩)]
              exact hid rfl
            refine bodyPost_ret (v := .tuple #[.int .i64 5, .int .i64 0, .agg #[.int .i64 0, .slice none 0 0]]) (by simp [results, Tryd.results14, go_sem, M0, M1]) rfl ?_
            refine ⟨((below_drewN HB6.out _).setCell (p := ⟨w.heap.size, 0, none⟩) (Nat.le_refl _) _).setCell (p := ⟨w.heap.size, 1, none⟩) (Nat.le_refl _) _, .inl ?_⟩
            rw [HR.out]
            exact ⟨rfl, rfl⟩
        · intro o ho hod K hK; simp only [List.getElem?_toArray, List.getElem?_cons_succ, List.getElem?_cons_zero, Option.some.injEq] at ho; subst ho
          go_simp
          obtain ⟨Bx, hBx⟩ : ∃ Bx, w2.heap.size = Bx := ⟨_, rfl⟩
          obtain ⟨w3, hw3⟩ : ∃ w3, w2.alloc (.cells #[.int .i64 0, .slice none 0 0] 41) = w3 := ⟨_, rfl⟩
          have n0 : w3.cell? ⟨Bx, 0, none⟩ = some (.int .i64 0) := by rw [← hw3, ← hBx]; simp
          have n1 : w3.cell? ⟨Bx, 1, none⟩ = some (.slice none 0 0) := by rw [← hw3, ← hBx]; simp
          have p0 : w3.frozen? ⟨Bx, 0, none⟩ = false := by rw [← hw3, ← hBx]; simp
          have p1 : w3.frozen? ⟨Bx, 1, none⟩ = false := by rw [← hw3, ← hBx]; simp
          have B3 : Below w1.heap.size w2 w3 := by rw [← hw3]; exact (Below.refl _ w2).alloc (by have := HZ2.out; omega) _
          have HE3 : Hid (Own w3 w.heap.size (.slice (some ⟨w1.heap.size, 0, none⟩) 0 0) []) := by rw [← hw3]; exact hid (World.ownsRow.alloc HEM.out _)
          have hBw : w1.heap.size < Bx := by have := HZ2.out; omega
          have hBz : Bx < w3.heap.size := by rw [← hw3, ← hBx]; simp
          have hCL3 : ∀ i, i < n → w3.cell? ⟨b, off + i, none⟩ = some (.int .u8 (f i)) := fun i hi => (B3.cell (p := ⟨b, off + i, none⟩) hb1).trans (HCL2.out i hi)
          have hsz3 : w.heap.size ≤ w3.heap.size := by have := HB2.out.size; have := B3.size; omega
          try rw [hw3]
          try rw [hBx]
          clear hw3 hBx
          refine hK.out _ _ ((B3.cell (p := ⟨b, off + 2, none⟩) hb1).trans c2) (fun hHeld => ?_)
          clear hK K
          try simp only [Act.put, List.setIfInBounds_toArray, List.set_cons_zero, List.set_cons_succ]
          refine call1 (i := 11) (d := some 47) (by kernel_rfl) (by kernel_rfl) ?_
          intro o ho hod K hK; simp only [List.getElem?_toArray, List.getElem?_cons_succ, List.getElem?_cons_zero, Option.some.injEq] at ho; subst ho
          rw [if_pos (by rfl)]
          refine wp_app_at _ _ 22 (by rfl) w.heap.size 5 i0 (.int .u8 0) 1 1 Tryd.underlying22 hi hz0 hz1 hz2 rfl (by decide) (.slice (some ⟨w1.heap.size, 0, none⟩) 0 0) 0 [] (by rfl) HE3.out ⟨b, off + at', none⟩ l (c - at') (cells8 (fun i => f (at' + i)) l) (by rw [← HSL.out]; rfl) (by simp [cells8]) (news_at hCL3 (by omega)) (fun u hu => by obtain ⟨i, _, rfl⟩ := List.mem_map.1 hu; rfl) (by unfold maxLen; omega) (by omega) hsz3 ?_
          intro v4 w4 hown4 hgr4 hloc4
          replace hgr4 : w3.grownBy w4 (Value.slice (some ⟨w1.heap.size, 0, none⟩) 0 0).ownBlock := ⟨hgr4.os, hgr4.tape, hgr4.output, hgr4.size, hgr4.block⟩
          have o4 := payl_own rfl hown4
          obtain ⟨g3, cp3, rfl, hg3, hg3'⟩ := own_payl o4 (some_of hloc4)
          have hne : g3 ≠ Bx := by
            rcases hloc4 with h | h
            · simp [Value.ownBlock] at h; omega
            · have h' : (Value.slice (some ⟨g3, 0, none⟩) l cp3).ownBlock = some w3.heap.size := h
              simp [Value.ownBlock] at h'; omega
          have hg1 : w1.heap.size ≤ g3 := by
            rcases hloc4 with h | h
            · simp [Value.ownBlock] at h; omega
            · have h' : (Value.slice (some ⟨g3, 0, none⟩) l cp3).ownBlock = some w3.heap.size := h
              simp [Value.ownBlock] at h'; omega
          have nr : some Bx ≠ (Value.slice (some ⟨w1.heap.size, 0, none⟩) 0 0).ownBlock := by simp [Value.ownBlock]; omega
          replace n0 := hgr4.cell n0 nr
          replace n1 := hgr4.cell n1 nr
          replace p0 := (hgr4.frozen_far ⟨Bx, 0, none⟩ hBz nr).trans p0
          replace p1 := (hgr4.frozen_far ⟨Bx, 1, none⟩ hBz nr).trans p1
          replace hBz := Nat.lt_of_lt_of_le hBz hgr4.size
          have B4 : Below w1.heap.size w2 w4 := B3.grown hgr4 (by have := HZ2.out; have := B3.size; omega) (fun q hq => by simp [Value.ownBlock] at hq; omega)
          refine hK.out _ _ ((B4.cell (p := ⟨b, off + 2, none⟩) hb1).trans c2) (fun hHeld => ?_)
          clear hK K
          try simp only [Act.put, List.setIfInBounds_toArray, List.set_cons_zero, List.set_cons_succ]
          clear hown4 hgr4 hloc4 nr
          refine take1 (i := 12) (d := some 48) (v := ?_) (by kernel_rfl) (by kernel_rfl) (by kernel_rfl) (by kernel_rfl) (fun _ _ _ h => h) ?_ hHeld ?_
          rotate_left
          · (intro o ho; simp only [List.getElem?_toArray, List.getElem?_cons_succ, List.getElem?_cons_zero, Option.some.injEq] at ho; subst ho; refine Or.inl ⟨by rfl, ?_⟩; intro w hSw; (try dsimp only at hSw); go_simp; try with_reducible rfl)
          try simp only [Act.put, List.setIfInBounds_toArray, List.set_cons_zero, List.set_cons_succ]
          refine call1 (i := 14) (d := none) (by kernel_rfl) (by kernel_rfl) ?_
          intro o ho hod K hK; simp only [List.getElem?_toArray, List.getElem?_cons_succ, List.getElem?_cons_zero, Option.some.injEq] at ho; subst ho
          go_simp
          obtain ⟨W5, hW5⟩ : ∃ W5, (w4.setCell ⟨Bx, 0, none⟩ (.int .i64 (f 2))).setCell ⟨Bx, 1, none⟩ (.slice (some ⟨g3, 0, none⟩) l cp3) = W5 := ⟨_, rfl⟩
          have e01 := boxE (.int .i64 (f 2)) (.slice (some ⟨g3, 0, none⟩) l cp3) n0 n1
          rw [hW5] at e01
          have m0 := e01.1
          have m1 := e01.2
          have B5 : Below w1.heap.size w2 W5 := by rw [← hW5]; exact (B4.setCell (p := ⟨Bx, 0, none⟩) (by show _ ≤ Bx; omega) _).setCell (p := ⟨Bx, 1, none⟩) (by show _ ≤ Bx; omega) _
          have O5 : Own W5 w.heap.size (.slice (some ⟨g3, 0, none⟩) l cp3) (payl (fun i => f (at' + i)) l) := by
            rw [← hW5]
            have ng : ∀ g, (Value.slice (some ⟨g3, 0, none⟩) l cp3).ownBlock = Option.some g → Option.some g ≠ Option.some Bx := fun g hg e => by simp [Value.ownBlock] at hg; injection e with e; omega
            exact (o4.gr (grownSetF _ ⟨Bx, 0, none⟩ _) ng).gr (grownSetF _ ⟨Bx, 1, none⟩ _) ng
          have zBx : Bx < W5.heap.size := by rw [← hW5]; simp [World.setCell]; exact hBz
          try rw [hW5]
          refine hK.out _ _ ((B5.cell (p := ⟨b, off + 2, none⟩) hb1).trans c2) (fun hHeld => ?_)
          clear hK K
          try simp only [Act.put, List.setIfInBounds_toArray, List.set_cons_zero, List.set_cons_succ]
          refine wpAnyH_done (by kernel_rfl) ?_ _
          clear hHeld hW5 e01 n0 n1 p0 p1 o4 B4 B3
          have zW : w.heap.size < w1.heap.size := by have := HZ.out; omega
          have X0 := (B5.cell (p := ⟨w.heap.size, 0, none⟩) zW).trans x0
          have X1 := (B5.cell (p := ⟨w.heap.size, 1, none⟩) zW).trans x1
          have Y0 := (B5.frozen (p := ⟨w.heap.size, 0, none⟩) zW).trans y0
          have Y1 := (B5.frozen (p := ⟨w.heap.size, 1, none⟩) zW).trans y1
          have HB5 := hid (HB2.out.trans (B5.mono (Nat.le_of_lt zW)))
          have HP := hid (specPFc g3 l cp3 (f 2) (fun i => f (at' + i)) W5 (by omega) (by omega) (by omega) (fun i => hf _) (payl_seg O5))
          have HO5 := hid O5
          have HC5 : Hid (∀ i, i < n → W5.cell? ⟨b, off + i, none⟩ = some (.int .u8 (f i))) := hid fun i hi => (B5.cell (p := ⟨b, off + i, none⟩) hb1).trans (HCL2.out i hi)
          have zW5 := B5.size
          have hk2 : okF (f 2) l = true := by simp [okF]; omega
          have HFZ : Hid (frZ (f 2) (fun i => f (at' + i)) l = frB (f 2) (fun i => f (at' + i)) l) := by unfold frZ; rw [hk2]; exact hid rfl
          have HLN := hid (frB_len hf HG.out h2)
          have hfz := frB_byte hf HG.out h2
          have HSU := hid (sumOk_iff hf HG.out h2)
          have HHF := hid hf
          have zg : g3 < W5.heap.size := (World.ownsRow.lt O5 g3 rfl).2
          clear x0 x1 y0 y1 B5 O5 c2 hf
          rw [hk2, HFZ.out] at HP
          obtain ⟨zs, hzs⟩ : ∃ zs, frB (f 2) (fun i => f (at' + i)) l = zs := ⟨_, rfl⟩
          rw [hzs] at HP HLN hfz HSU
          clear HFZ hzs hk2
          go_wp2_with fail
          refine HP.out.mono ?_
          rintro e w6 ⟨v6, rfl, o6, b6⟩
          obtain ⟨g6, c6, rfl, _, _, _, _, _, s6⟩ := o6.shape (fun e => by have := HLN.out; rw [e] at this; simp at this)
          replace m0 := (b6.cell (p := ⟨Bx, 0, none⟩) zBx).trans m0
          replace m1 := (b6.cell (p := ⟨Bx, 1, none⟩) zBx).trans m1
          have zz : w.heap.size < W5.heap.size := by omega
          replace X0 := (b6.cell (p := ⟨w.heap.size, 0, none⟩) zz).trans X0
          replace X1 := (b6.cell (p := ⟨w.heap.size, 1, none⟩) zz).trans X1
          replace Y0 := (b6.frozen (p := ⟨w.heap.size, 0, none⟩) zz).trans Y0
          replace Y1 := (b6.frozen (p := ⟨w.heap.size, 1, none⟩) zz).trans Y1
          have HB6 := hid (HB5.out.trans (b6.mono (Nat.le_of_lt zz)))
          have HO6 : Hid (Own w6 w.heap.size (.slice (some ⟨g3, 0, none⟩) l cp3) (payl (fun i => f (at' + i)) l)) := hid (HO5.out.kept b6 (fun k hk => (World.ownsRow.lt HO5.out k hk).2))
          rcases s6 with h0 | ⟨gb, goff, e6, hgb, hgc⟩
          · have := HLN.out; omega
          injection e6 with e6
          injection e6 with e61 e62 _
          subst e61 e62
          have hcv1 : ∀ k cap, (convert 22 9 (.slice (some ⟨g6, 0, none⟩) zs.length cap)).run Tryd.prog (w6.drewN k) = .ok (.string (strG (gz zs) 0 zs.length)) (w6.drewN k) := fun k cap => strG_conv 0 hfz (fun i hi => by have := hgc i hi; simp only [Nat.zero_add] at this ⊢; exact this)
          have hcv2 : ∀ k cap, (convert 22 9 (.slice (some ⟨b, off, none⟩) (at' + l + 4) cap)).run Tryd.prog (w6.drewN k) = .ok (.string (strG f 0 (at' + l + 4))) (w6.drewN k) := fun k cap => strG_conv 0 HHF.out (fun i hi => by
            have := (b6.cell (p := ⟨b, off + i, none⟩) (show b < W5.heap.size by omega)).trans (HC5.out i (by omega))
            rw [Nat.zero_add]; exact this)
          have HIFF := hid (strG_eq (p := 0) (q := 0) (L := zs.length) (M := at' + l + 4) hfz HHF.out)
          obtain ⟨S1, hS1⟩ : ∃ S1, strG (gz zs) 0 zs.length = S1 := ⟨_, rfl⟩
          obtain ⟨S2, hS2⟩ : ∃ S2, strG f 0 (at' + l + 4) = S2 := ⟨_, rfl⟩
          rw [hS1] at hcv1 HIFF
          rw [hS2] at hcv2 HIFF
          clear hS1 hS2 b6 o6 hgc HP hfz
          obtain ⟨L, hL⟩ : ∃ L, zs.length = L := ⟨_, rfl⟩
          rw [hL] at hcv1 HLN HIFF ⊢
          clear hL
          have q0 : (0 : Int) ≤ (at' : Int) + (l : Int) + 4 := by omega
          have q1 : (at' : Int) + (l : Int) + 4 ≤ (c : Int) := by omega
          have q2 : ((at' : Int) + (l : Int) + 4).toNat = at' + l + 4 := by omega
          by_cases hsame : S1 = S2
          · have hd : (S1.toList == S2.toList) = true := by rw [hsame]; simp
            have HAT := hid (HIFF.out.1 hsame)
            clear hsame
            go_wp2_with fail
            go_quiet (fail)
            go_wp2_with fail
            have m0' : (w6.drewN nq).cell? ⟨Bx, 0, none⟩ = some (.int .i64 (f 2)) := m0
            have m1' : (w6.drewN nq).cell? ⟨Bx, 1, none⟩ = some (.slice (some ⟨g3, 0, none⟩) l cp3) := m1
            refine wp_region_held_drew (S := fun w' => w'.cell? ⟨Bx, 0, none⟩ = some (.int .i64 (f 2)) ∧ w'.cell? ⟨Bx, 1, none⟩ = some (.slice (some ⟨g3, 0, none⟩) l cp3)) (by kernel_rfl) ⟨m0', m1'⟩ (fun hHeld => ?_)
            refine take1 (i := 0) (d := some 65) (v := ?_) (by kernel_rfl) (by kernel_rfl) (by kernel_rfl) (by kernel_rfl) (fun _ _ _ h => h) ?_ hHeld ?_
            rotate_left
            · (intro o ho; simp only [List.getElem?_toArray, List.getElem?_cons_succ, List.getElem?_cons_zero, Option.some.injEq] at ho; subst ho; refine Or.inl ⟨by rfl, ?_⟩; intro w hSw; (try dsimp only at hSw); go_simp; try with_reducible rfl)
            try simp only [Act.put, List.setIfInBounds_toArray, List.set_cons_zero, List.set_cons_succ]
            refine take1 (i := 1) (d := some 66) (v := ?_) (by kernel_rfl) (by kernel_rfl) (by kernel_rfl) (by kernel_rfl) (fun _ _ _ h => h) ?_ hHeld ?_
            rotate_left
            · (intro o ho; simp only [List.getElem?_toArray, List.getElem?_cons_succ, List.getElem?_cons_zero, Option.some.injEq] at ho; subst ho; refine Or.inl ⟨by rfl, ?_⟩; intro w hSw; (try dsimp only at hSw); go_simp; try with_reducible rfl)
            try simp only [Act.put, List.setIfInBounds_toArray, List.set_cons_zero, List.set_cons_succ]
            refine take1 (i := 2) (d := some 67) (v := ?_) (by kernel_rfl) (by kernel_rfl) (by kernel_rfl) (by kernel_rfl) (fun _ _ _ h => h) ?_ hHeld ?_
            rotate_left
            · (intro o ho; simp only [List.getElem?_toArray, List.getElem?_cons_succ, List.getElem?_cons_zero, Option.some.injEq] at ho; subst ho; refine Or.inl ⟨by rfl, ?_⟩; intro w hSw; (try dsimp only at hSw); go_simp; try with_reducible rfl)
            try simp only [Act.put, List.setIfInBounds_toArray, List.set_cons_zero, List.set_cons_succ]
            refine take1 (i := 3) (d := some 68) (v := ?_) (by kernel_rfl) (by kernel_rfl) (by kernel_rfl) (by kernel_rfl) (fun _ _ _ h => h) ?_ hHeld ?_
            rotate_left
            · (intro o ho; simp only [List.getElem?_toArray, List.getElem?_cons_succ, List.getElem?_cons_zero, Option.some.injEq] at ho; subst ho; refine Or.inl ⟨by rfl, ?_⟩; intro w hSw; (try dsimp only at hSw); go_simp; try with_reducible rfl)
            try simp only [Act.put, List.setIfInBounds_toArray, List.set_cons_zero, List.set_cons_succ]
            refine take1 (i := 4) (d := some 69) (v := ?_) (by kernel_rfl) (by kernel_rfl) (by kernel_rfl) (by kernel_rfl) (fun _ _ _ h => h) ?_ hHeld ?_
            rotate_left
            · (intro o ho; simp only [List.getElem?_toArray, List.getElem?_cons_succ, List.getElem?_cons_zero, Option.some.injEq] at ho; subst ho; refine Or.inl ⟨by rfl, ?_⟩; intro w hSw; (try dsimp only at hSw); go_simp; try with_reducible rfl)
            try simp only [Act.put, List.setIfInBounds_toArray, List.set_cons_zero, List.set_cons_succ]
            refine take1 (i := 5) (d := some 2) (v := ?_) (by kernel_rfl) (by kernel_rfl) (by kernel_rfl) (by kernel_rfl) (fun _ _ _ h => h) ?_ hHeld ?_
            rotate_left
            · (intro o ho; simp only [List.getElem?_toArray, List.getElem?_cons_succ, List.getElem?_cons_zero, Option.some.injEq] at ho; subst ho; refine Or.inl ⟨by rfl, ?_⟩; intro w hSw; (try dsimp only at hSw); go_simp; try with_reducible rfl)
            try simp only [Act.put, List.setIfInBounds_toArray, List.set_cons_zero, List.set_cons_succ]
            refine take1 (i := 6) (d := some 3) (v := ?_) (by kernel_rfl) (by kernel_rfl) (by kernel_rfl) (by kernel_rfl) (fun _ _ _ h => h) ?_ hHeld ?_
            rotate_left
            · (intro o ho; simp only [List.getElem?_toArray, List.getElem?_cons_succ, List.getElem?_cons_zero, Option.some.injEq] at ho; subst ho; refine Or.inl ⟨by rfl, ?_⟩; intro w hSw; (try dsimp only at hSw); go_simp; try with_reducible rfl)
            try simp only [Act.put, List.setIfInBounds_toArray, List.set_cons_zero, List.set_cons_succ]
            refine call1 (i := 7) (d := none) (by kernel_rfl) (by kernel_rfl) ?_
            intro o ho hod K hK; simp only [List.getElem?_toArray, List.getElem?_cons_succ, List.getElem?_cons_zero, Option.some.injEq] at ho; subst ho
            go_simp
            have e01 := boxE (w1 := w6.drewN (nq + 1)) (.int .i64 (f 2)) (.slice (some ⟨g3, 0, none⟩) l cp3) X0 X1
            have nb : ∀ (j : Nat) (i : Nat), (⟨w.heap.size, i, none⟩ : Addr) ≠ ⟨Bx, j, none⟩ := fun j i e => by injection e with e; omega
            have m0'' : (((w6.drewN (nq + 1)).setCell ⟨w.heap.size, 0, none⟩ (.int .i64 (f 2))).setCell ⟨w.heap.size, 1, none⟩ (.slice (some ⟨g3, 0, none⟩) l cp3)).cell? ⟨Bx, 0, none⟩ = some (.int .i64 (f 2)) :=
              ((grownSetF _ ⟨w.heap.size, 1, none⟩ _).cell ((grownSetF (w6.drewN (nq + 1)) ⟨w.heap.size, 0, none⟩ _).cell (a := ⟨Bx, 0, none⟩) m0 (by simp; omega)) (by simp; omega))
            have m1'' : (((w6.drewN (nq + 1)).setCell ⟨w.heap.size, 0, none⟩ (.int .i64 (f 2))).setCell ⟨w.heap.size, 1, none⟩ (.slice (some ⟨g3, 0, none⟩) l cp3)).cell? ⟨Bx, 1, none⟩ = some (.slice (some ⟨g3, 0, none⟩) l cp3) :=
              ((grownSetF _ ⟨w.heap.size, 1, none⟩ _).cell ((grownSetF (w6.drewN (nq + 1)) ⟨w.heap.size, 0, none⟩ _).cell (a := ⟨Bx, 1, none⟩) m1 (by simp; omega)) (by simp; omega))
            have HR : Hid (firstF f n = (0, at' + l + 4)) := by
              rw [HF.out, if_neg (by simp), if_neg (by omega), if_pos (HSU.out.2 (fun i hi => by have := HAT.out.2 i (by have := HLN.out; omega); simp only [Nat.zero_add] at this; exact this))]
              exact hid rfl
            have o7 : Own (w6.drewN (nq + 1)) w.heap.size (.slice (some ⟨g3, 0, none⟩) l cp3) (payl (fun i => f (at' + i)) l) := HO6.out
            have ng : ∀ g, (Value.slice (some ⟨g3, 0, none⟩) l cp3).ownBlock = Option.some g → Option.some g ≠ Option.some w.heap.size := fun g hg e => by simp [Value.ownBlock] at hg; injection e with e; omega
            have HO8 := hid ((o7.gr (grownSetF _ ⟨w.heap.size, 0, none⟩ (.int .i64 (f 2))) ng).gr (grownSetF _ ⟨w.heap.size, 1, none⟩ (.slice (some ⟨g3, 0, none⟩) l cp3)) ng)
            have HB8 := hid (((below_drewN HB6.out (nq + 1)).setCell (p := ⟨w.heap.size, 0, none⟩) (Nat.le_refl _) (.int .i64 (f 2))).setCell (p := ⟨w.heap.size, 1, none⟩) (Nat.le_refl _) (.slice (some ⟨g3, 0, none⟩) l cp3))
            refine hK.out _ _ ⟨m0'', m1''⟩ (fun hHeld => ?_)
            clear hK K
            try simp only [Act.put, List.setIfInBounds_toArray, List.set_cons_zero, List.set_cons_succ]
            refine wpAnyH_done (by kernel_rfl) ?_ _
            have M0 := e01.1
            have M1 := e01.2
            obtain ⟨W8, hW8⟩ : ∃ W8, ((w6.drewN (nq + 1)).setCell ⟨w.heap.size, 0, none⟩ (.int .i64 (f 2))).setCell ⟨w.heap.size, 1, none⟩ (.slice (some ⟨g3, 0, none⟩) l cp3) = W8 := ⟨_, rfl⟩
            rw [hW8] at M0 M1 HO8 HB8 ⊢
            clear hW8 hHeld m0'' m1'' e01 o7 m0' m1' m0 m1 X0 X1 Y0 Y1
            go_wp2_with fail
            refine bodyPost_ret (v := .tuple #[.int .i64 0, .int .i64 ((at' : Int) + (l : Int) + 4), .agg #[.int .i64 (f 2), .slice (some ⟨g3, 0, none⟩) l cp3]]) (by simp [results, Tryd.results14, go_sem, M0, M1]) rfl ?_
            refine ⟨HB8.out, .inr ?_⟩
            rw [HR.out]
            exact ⟨rfl, by simp, _, by push_cast; rfl, HO8.out⟩
          · have hd : (S1.toList == S2.toList) = false := by
              cases h : (S1.toList == S2.toList) with
              | false => rfl
              | true =>
                have h2 : S1.toList = S2.toList := by simpa using h
                rw [Go.ByteArray.toList_eq, Go.ByteArray.toList_eq] at h2
                exact absurd (by cases S1; cases S2; simp at h2; rw [h2]) hsame
            have HAT := hid (fun h => hsame (HIFF.out.2 h))
            clear hsame
            go_wp2_with fail
            go_quiet (fail)
            go_wp2_with fail
            have e01 := boxE (w1 := w6.drewN nq) (.int .i64 0) (.slice none 0 0) X0 X1
            have M0 := e01.1
            have M1 := e01.2
            have HR : Hid (firstF f n = (5, 0)) := by
              rw [HF.out, if_neg (by simp), if_neg (by omega), if_neg (fun h => HAT.out ⟨HLN.out, fun i hi => by have := HSU.out.1 h i (by have := HLN.out; omega); simp only [Nat.zero_add]; exact this⟩)]
              exact hid rfl
            refine bodyPost_ret (v := .tuple #[.int .i64 5, .int .i64 0, .agg #[.int .i64 0, .slice none 0 0]]) (by simp [results, Tryd.results14, go_sem, M0, M1]) rfl ?_
            refine ⟨((below_drewN HB6.out _).setCell (p := ⟨w.heap.size, 0, none⟩) (Nat.le_refl _) _).setCell (p := ⟨w.heap.size, 1, none⟩) (Nat.le_refl _) _, .inl ?_⟩
            rw [HR.out]
            exact ⟨rfl, rfl⟩
  · have HR : Hid (firstF f n = (fl, 0)) := hid (by rw [HF.out, if_pos h1])
    have d1 : ((fl : Int) == 0) = false := by simp; omega
    rw [HR.out]
    go_enter Tryd.func14, Tryd.ntmps14
    go_wp2_with fail
    try rw [hW]
    clear hW
    refine HH.out.mono ?_
    rintro e w1 ⟨rfl, b1⟩
    have bc := fun (i : Nat) => b1.cell (p := ⟨w.heap.size, i, none⟩) (show w.heap.size < W.heap.size by have := HZ.out; omega)
    have bf := fun (i : Nat) => b1.frozen (p := ⟨w.heap.size, i, none⟩) (show w.heap.size < W.heap.size by have := HZ.out; omega)
    have q0 := (bc 0).trans k0
    have q1 := (bc 1).trans k1
    have r0 := (bf 0).trans l0
    have r1 := (bf 1).trans l1
    have z1 := b1.size
    have HB1 := hid (HBW.out.trans (b1.mono (by have := HZ.out; omega)))
    have HS1 := hid (HS.out.below b1)
    clear b1 bc bf HH
    go_wp2_with fail
    have e01 := boxE (.int .i64 0) (.slice none 0 0) q0 q1
    have m0 := e01.1
    have m1 := e01.2
    refine bodyPost_ret (v := .tuple #[.int .i64 (fl : Int), .int .i64 0, .agg #[.int .i64 0, .slice none 0 0]]) (by simp [results, Tryd.results14, go_sem, m0, m1]) rfl ?_
    exact ⟨(HB1.out.setCell (p := ⟨w.heap.size, 0, none⟩) (Nat.le_refl _) _).setCell (p := ⟨w.heap.size, 1, none⟩) (Nat.le_refl _) _, .inl ⟨by first | trivial | rfl, rfl⟩⟩
end Go.Proofs.YthkppnmnjboiaaaDoor
