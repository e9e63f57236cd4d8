import Derived.Test.YtdenbicnckkdfaaGreatMg37
import Derived.Test.YtdenbicnckkdfaaGreatMg30
import Derived.Test.YtdenbicnckkdfaaGreatMg19
namespace Go.Proofs.YtdenbicnckkdfaaGreat
open Go.ChangeShapes Go.WideShapes Go.ChangeAt Go.RowKit
set_option linter.unusedVariables false
set_option linter.unusedSimpArgs false

theorem has_at (R F T : Nat → Int) (r f t : Int) : ∀ n, hasK R F T r f t n = true → ∃ k, k < n ∧ R k = r ∧ F k ≤ f ∧ t ≤ T k
  | 0, h => by simp [hasK] at h
  | n + 1, h => by
    simp only [hasK, Bool.or_eq_true, decide_eq_true_eq] at h
    rcases h with h | h
    · obtain ⟨k, hk, r⟩ := has_at R F T r f t n h
      exact ⟨k, by omega, r⟩
    · exact ⟨n, by omega, h⟩

theorem StOk.lvB {R F T : Nat → Int} {n : Nat} {l : List Lf} (h : StOk R F T n l) : LvB l := by
  obtain ⟨h1, h2, h3, h4⟩ := h
  have hok := (ctxB_iff.1 h1).1
  have key : ∀ i, i < l.length → (0 ≤ (gL l i).r ∧ (gL l i).r < 8) ∧ (0 ≤ (gL l i).q ∧ (gL l i).q ≤ 1000000000) := fun i hi => by
    obtain ⟨k, hk, e1, e2, e3⟩ := has_at R F T _ _ _ n (h3 i hi).2.1
    have := (hok k hk).1
    simp only [runOkB, Bool.and_eq_true, decide_eq_true_eq] at this
    omega
  exact ⟨fun i hi => (key i hi).1, fun i hi => (key i hi).2, fun i hi => (h3 i hi).1.2.1, h2, h4⟩

noncomputable def psB (R F T : Nat → Int) (n : Nat) (l : List Lf) : List Int := putB (Lk R F T n) ++ tB l 8 []

noncomputable def psZ (R F T : Nat → Int) (n : Nat) (l : List Lf) : List Int × Int :=
  if yes (StOk R F T n l) = true then (if (psB R F T n l).length ≤ 4000 then (psB R F T n l, 0) else ([], 2)) else ([], 1)
theorem psZ_no {R F T : Nat → Int} {n : Nat} {l : List Lf} (h : ¬ StOk R F T n l) : psZ R F T n l = ([], 1) := by unfold psZ; rw [if_neg (by rw [yes_f h]; simp)]
theorem psZ_long {R F T : Nat → Int} {n : Nat} {l : List Lf} (h : StOk R F T n l) (h2 : ¬ (psB R F T n l).length ≤ 4000) : psZ R F T n l = ([], 2) := by unfold psZ; rw [if_pos (yes_t h), if_neg h2]
theorem psZ_yes {R F T : Nat → Int} {n : Nat} {l : List Lf} (h : StOk R F T n l) (h2 : (psB R F T n l).length ≤ 4000) : psZ R F T n l = (psB R F T n l, 0) := by unfold psZ; rw [if_pos (yes_t h), if_pos h2]
theorem psZ_len (R F T : Nat → Int) (n : Nat) (l : List Lf) : (psZ R F T n l).1.length ≤ 4000 := by
  unfold psZ
  split
  · split
    · assumption
    · simp
  · simp
theorem StOk.put_len {R F T : Nat → Int} {n : Nat} {l : List Lf} (h : StOk R F T n l) : (putB (Lk R F T n)).length ≤ 1000000 ∧ 0 < (putB (Lk R F T n)).length := by
  have := putZ_len R F T n
  unfold putZ at this
  rw [if_pos h.1] at this
  refine ⟨this, ?_⟩
  rw [putB_eq, List.length_append]
  have := (uvF_len 9 (KS (Lk R F T n) 8).length).2
  omega
theorem StOk.tree_len {R F T : Nat → Int} {n : Nat} {l : List Lf} (h : StOk R F T n l) : (tB l 8 []).length ≤ 2000000 := by
  have h1 := tB_len h.2.2.1 8 []
  have h2 := uK_le l [] l.length
  have h3 := h.2.1
  have h4 : (400 + 100 * 8) * uK l [] l.length ≤ 1200 * 1000 := Nat.mul_le_mul (by omega) (by omega)
  omega
theorem StOk.iv {R F T : Nat → Int} {n : Nat} {l : List Lf} (h : StOk R F T n l) : Iv l [] 0 (0 + l.length) := by
  refine ⟨fun j hj => ?_, by omega, by omega⟩
  rw [nx_ne]
  have := (h.2.2.1 j hj).1.1.1
  exact ⟨fun _ => ⟨by omega, by omega⟩, fun _ => ⟨List.nil_prefix, Nat.lt_of_lt_of_le Nat.zero_lt_one this⟩⟩
theorem LSeg.lat {w : World} {a : Option Addr} {l : List Lf} (h : LSeg w a l) (h0 : 0 < l.length) : ∃ b off, a = some ⟨b, off, none⟩ ∧ LAt w b off l 0 l.length := by
  rcases h with h | ⟨b, off, e, hb, hc⟩
  · omega
  · refine ⟨b, off, e, hb, fun t ht => ?_⟩
    rw [Nat.zero_add]
    exact hc t ht
theorem own_mt (w : World) (B : Nat) (hB : B ≤ w.heap.size) : Own (w.alloc (.cells #[] 5)) B (.slice (some ⟨w.heap.size, 0, none⟩) 0 0) [] := by
  have := World.ownsRow_lit (base := B) (e := 5) (size := 1) w #[] 0 hB (by unfold maxLen; omega) rfl
  simpa [Own] using this
set_option maxRecDepth 100000 in
set_option maxHeartbeats 2000000 in
theorem l4BytesC (a : Option Addr) (c : Nat) (l : List Lf) (x : Option Addr) (n d : Nat) (R F T : Nat → Int) (w : World) (hc : l.length ≤ c) (hcm : c ≤ 9223372036854775807) (hn : n ≤ 1048576) (h : LSeg w a l) (h' : RSeg w x n R F T) (hok : StOk R F T n l) :
    Calls Tryz.prog 37 #[.agg #[.slice a l.length c, .slice x n d]] w fun e w' => ∃ v, e = .returned v ∧ Own w' w.heap.size v (psB R F T n l) ∧ Below w.heap.size w w' := by
  obtain ⟨W, hW⟩ : ∃ W, w.alloc (.cells #[.slice a l.length c, .slice x n d] 36) = W := ⟨_, rfl⟩
  have b0 : Below w.heap.size w W := by rw [← hW]; exact (Below.refl _ _).alloc (Nat.le_refl _) _
  have B0 : Bx2 W w.heap.size (.slice a l.length c) (.slice x n d) := by rw [← hW]; exact Bx2.made _ _ _ _
  have k0 := B0.c0
  have k1 := B0.c1
  have HBX := hid B0
  have HL := hid (h.below b0)
  have HP := hid (specPut x n d R F T W hn (h'.below b0) hok.1)
  have HB0 := hid b0
  have HT : Hid (∀ w1, Below W.heap.size W w1 → Calls Tryz.prog 64 #[.slice a l.length c, .int .i64 0] w1 fun e w' => ∃ v, e = .returned v ∧ Own w' w1.heap.size v (tB l 8 []) ∧ Below w1.heap.size w1 w') := hid (fun w1 hb1 => by
    have := l4TreeC l hok.2.2.1 hok.lvB 8 [] rfl (by omega) 0 l.length c a w1 hc hcm hok.iv (fun h0 => (HL.out.below hb1).lat h0) (by have := hok.tree_len; omega)
    exact this)
  have HLn := hid (And.intro hok.put_len hok.tree_len)
  have HTP : Hid (0 < (tB l 8 []).length) := hid (tB_pos l 7 [])
  have HPS : Hid (putB (Lk R F T n) ++ tB l 8 [] = psB R F T n l) := hid rfl
  obtain ⟨Z, hZ⟩ : ∃ Z, psB R F T n l = Z := ⟨_, rfl⟩
  rw [hZ] at HPS ⊢
  clear hZ h h' b0 B0 hok
  go_enter Tryz.func37, Tryz.ntmps37
  go_wp2_with fail
  try rw [hW]
  clear hW
  refine HP.out.mono ?_
  rintro e w1 ⟨v1, rfl, o1, b1⟩
  have X1 := HBX.out.below b1 HBX.out.lt
  have q0 := X1.c0
  have q1 := X1.c1
  have HBd : Hid (Bd w w1 v1 (putB (Lk R F T n))) := hid ⟨keepS HB0.out b1, Own.weak o1 HB0.out.size, own_ne o1 HLn.out.1.2⟩
  have HT1 := hid (HT.out w1 b1)
  clear b1 o1 X1 HP HT HBX k0 k1
  go_wp2_with fail
  refine HT1.out.mono ?_
  rintro e w2 ⟨v2, rfl, o2, b2⟩
  obtain ⟨v3, w3, happ, bd3⟩ := HBd.out.app b2 o2 HTP.out (by have := HLn.out; omega)
  rw [HPS.out] at bd3
  have HBd3 := hid bd3
  clear bd3 b2 o2 HBd HT1 q0 q1
  go_wp2_with (at_builtin; refine wpList_app2 rfl _ _ _ _ rfl happ (by rfl) (by rfl) rfl ?_; clear happ)
  go_ret
  exact ⟨v3, rfl, HBd3.out.o, HBd3.out.b⟩
set_option maxRecDepth 100000 in
set_option maxHeartbeats 2000000 in
theorem specPutState (a : Option Addr) (c : Nat) (l : List Lf) (x : Option Addr) (n d : Nat) (R F T : Nat → Int) (w : World) (hc : l.length ≤ c) (hcm : c ≤ 9223372036854775807) (hl : l.length ≤ 1048576) (hp : LBd l) (hn : n ≤ 1048576) (h : LCap w a l) (h2 : LSeg w a l) (h' : RSeg w x n R F T) :
    Calls Tryz.prog 19 #[.agg #[.slice a l.length c, .slice x n d]] w fun e w' => ∃ v zs k, e = .returned (.tuple #[v, .int .i64 k]) ∧ psZ R F T n l = (zs, k) ∧ Own w' w.heap.size v zs ∧ Below w.heap.size w w' := by
  obtain ⟨W, hW⟩ : ∃ W, w.alloc (.cells #[.slice a l.length c, .slice x n d] 36) = W := ⟨_, rfl⟩
  have b0 : Below w.heap.size w W := by rw [← hW]; exact (Below.refl _ _).alloc (Nat.le_refl _) _
  have B0 : Bx2 W w.heap.size (.slice a l.length c) (.slice x n d) := by rw [← hW]; exact Bx2.made _ _ _ _
  have k0 := B0.c0
  have k1 := B0.c1
  have HBX := hid B0
  have HL := hid (h2.below b0)
  have HR := hid (h'.below b0)
  have HSO := hid (specStateOk a c l x n d R F T W hl hp hn (h.below b0) (h'.below b0))
  have HB0 := hid b0
  clear h h2 h' b0 B0
  by_cases hok : StOk R F T n l
  · rw [yes_t hok] at HSO
    have HBY : Hid (∀ w1, Below W.heap.size W w1 → Calls Tryz.prog 37 #[.agg #[.slice a l.length c, .slice x n d]] w1 fun e w' => ∃ v, e = .returned v ∧ Own w' w1.heap.size v (psB R F T n l) ∧ Below w1.heap.size w1 w') := hid (fun w1 hb => l4BytesC a c l x n d R F T w1 hc hcm hn (HL.out.below hb) (HR.out.below hb) hok)
    have HPY := hid (fun h => psZ_yes hok h)
    have HPL := hid (fun h => psZ_long hok h)
    have HLn : Hid ((psB R F T n l).length ≤ 1000000000) := hid (by have h1 := hok.put_len; have h2 := hok.tree_len; unfold psB; rw [List.length_append]; omega)
    obtain ⟨Z, hZ⟩ : ∃ Z, psB R F T n l = Z := ⟨_, rfl⟩
    obtain ⟨P, hP⟩ : ∃ P, psZ R F T n l = P := ⟨_, rfl⟩
    rw [hZ, hP] at HPY HPL
    rw [hZ] at HBY HLn
    rw [hP]
    clear hZ hP hok
    go_enter Tryz.func19, Tryz.ntmps19
    go_wp2_with fail
    try rw [hW]
    clear hW
    refine HSO.out.mono ?_
    rintro e w1 ⟨rfl, b1⟩
    have X1 := HBX.out.below b1 HBX.out.lt
    have q0 := X1.c0
    have q1 := X1.c1
    have HB1 := hid (keepS HB0.out b1)
    have HY1 := hid (HBY.out w1 b1)
    clear b1 X1 HSO HBX k0 k1 HBY
    go_wp2_with fail
    refine HY1.out.mono ?_
    rintro e w2 ⟨v2, rfl, o2, b2⟩
    have HO2 := hid (Own.weak o2 HB1.out.size)
    have HB2 := hid (keepS HB1.out b2)
    obtain ⟨av, cv, rfl, _⟩ := o2.any
    have hzl := HLn.out
    clear b2 o2 HY1 q0 q1
    by_cases hz : Z.length ≤ 4000
    · have HP := hid (HPY.out hz)
      have d1 : decide ((4000 : Int) < (Z.length : Int)) = false := by simp; omega
      have d2 : decide (4000 < Z.length) = false := by simp; omega
      go_wp2_with fail
      go_ret2
      exact ⟨_, Z, 0, rfl, HP.out, HO2.out, HB2.out⟩
    · have HP := hid (HPL.out hz)
      have d1 : decide ((4000 : Int) < (Z.length : Int)) = true := by simp; omega
      have d2 : decide (4000 < Z.length) = true := by simp; omega
      go_wp2_with fail
      go_ret2
      exact ⟨_, [], 2, rfl, HP.out, own_mt _ _ HB2.out.size, HB2.out.alloc HB2.out.size _⟩
  · rw [yes_f hok] at HSO
    have HPN := hid (psZ_no hok)
    obtain ⟨P, hP⟩ : ∃ P, psZ R F T n l = P := ⟨_, rfl⟩
    rw [hP] at HPN
    rw [hP]
    clear hP hok
    go_enter Tryz.func19, Tryz.ntmps19
    go_wp2_with fail
    try rw [hW]
    clear hW
    refine HSO.out.mono ?_
    rintro e w1 ⟨rfl, b1⟩
    have HB1 := hid (keepS HB0.out b1)
    clear b1 HSO HBX k0 k1
    go_wp2_with fail
    go_ret2
    exact ⟨_, [], 1, rfl, HPN.out, own_mt _ _ HB1.out.size, HB1.out.alloc HB1.out.size _⟩
end Go.Proofs.YtdenbicnckkdfaaGreat

namespace Go.Proofs.YtdenbicnckkdfaaGreat
open Go.ChangeShapes Go.WideShapes Go.ChangeAt Go.RowKit
set_option linter.unusedVariables false
set_option linter.unusedSimpArgs false

set_option maxRecDepth 100000 in
set_option maxHeartbeats 2000000 in
theorem implPutState (a : Option Addr) (c : Nat) (l : List Lf) (x : Option Addr) (n d : Nat) (R F T : Nat → Int) (w : World) (hn : l.length ≤ 1048576) (hp : LBd l) (hi : ∀ i, LfI (gL l i)) (hm : n ≤ 1048576) (h : LSeg w a l) (h' : RSeg w x n R F T) :
    Calls Tryz.prog 24 #[.agg #[.slice a l.length c, .slice x n d]] w fun e w' => ∃ v zs k, e = .returned (.tuple #[v, .int .i64 k]) ∧ psZ R F T n l = (zs, k) ∧ Own w' w.heap.size v zs ∧ Below w.heap.size w w' := by
  obtain ⟨W, hW⟩ : ∃ W, w.alloc (.cells #[.slice a l.length c, .slice x n d] 36) = W := ⟨_, rfl⟩
  have b0 : Below w.heap.size w W := by rw [← hW]; exact (Below.refl _ _).alloc (Nat.le_refl _) _
  have B0 : Bx2 W w.heap.size (.slice a l.length c) (.slice x n d) := by rw [← hW]; exact Bx2.made _ _ _ _
  have k0 := B0.c0
  have k1 := B0.c1
  have HL := hid (h.below b0)
  have HR := hid (h'.below b0)
  have HB0 := hid b0
  clear h h' b0 B0
  by_cases hok : StOk R F T n l
  · have HO := hid (openStateK a c l x n d R F T W hn hp hi hm HL.out HR.out hok)
    have HPY := hid (fun h => psZ_yes hok h)
    have HPL := hid (fun h => psZ_long hok h)
    have HLn := hid (And.intro hok.put_len hok.tree_len)
    have HLz : Hid ((psB R F T n l).length ≤ 1000000000) := hid (by have h1 := hok.put_len; have h2 := hok.tree_len; unfold psB; rw [List.length_append]; omega)
    have HPE : Hid (putB (Lk R F T n) ++ tB l 8 [] = psB R F T n l) := hid rfl
    obtain ⟨Z, hZ⟩ : ∃ Z, psB R F T n l = Z := ⟨_, rfl⟩
    obtain ⟨P, hP⟩ : ∃ P, psZ R F T n l = P := ⟨_, rfl⟩
    rw [hZ, hP] at HPY HPL
    rw [hZ] at HLz HPE
    rw [hP]
    clear hZ hP
    have HOK := hid hok
    clear hok
    go_enter Tryz.func24, Tryz.ntmps24
    go_wp2_with fail
    try rw [hW]
    clear hW
    refine HO.out.mono ?_
    rintro e w1 ⟨⟨x0, bm, D, G, N, B, rfl, hgrp, _, _, _, hT, hN, hI⟩, b1⟩
    obtain ⟨w2, hw2⟩ : ∃ w2, w1.alloc (.cells #[.map (some x0.1), .map (some x0.2), .map (some bm)] 86) = w2 := ⟨_, rfl⟩
    have b2 : Below w1.heap.size w1 w2 := by rw [← hw2]; exact (Below.refl _ _).alloc (Nat.le_refl _) _
    have L2 : Bx3 w2 w1.heap.size (.map (some x0.1)) (.map (some x0.2)) (.map (some bm)) := by rw [← hw2]; exact Bx3.made _ _ _ _ _
    have c0 := L2.c0
    have c1 := L2.c1
    have c2 := L2.c2
    have HL2 := hid L2
    have HZ := hid (keepS HB0.out (keepS b1 b2))
    have hokc := ctxB_iff.1 HOK.out.1
    have HA : Hid (∀ w3, Below w2.heap.size w2 w3 → Calls Tryz.prog 48 #[.map (some bm), .slice none 0 0] w3 fun e w' => ∃ v, e = .returned v ∧ Own w' w3.heap.size v (putB (Lk R F T n)) ∧ Below w3.heap.size w3 w') := hid (fun w3 hb3 => appendToC ((hgrp.below b2).below hb3) (hid (fun r => Nat.le_trans (Lk_len R F T n r) hokc.2)) (hid (fun r => (Lk_srt n hokc.1 r).1)) (hid (Lk_rep n hokc.1)))
    have HTN : Hid (∀ (bv : Value) (w3 : World), Below w2.heap.size w2 w3 → Own w3 w2.heap.size bv (putB (Lk R F T n)) → Calls Tryz.prog 47 #[.agg #[.map (some x0.1), .map (some x0.2)], bv] w3 fun e w' => ∃ v, e = .returned v ∧ Own w' w2.heap.size v Z ∧ Gr w3 w' bv v) := hid (fun bv w3 hb3 ho3 => by
      have := appendToN l w2 B (9 * l.length) N (hT.below b2) hI (by have := HOK.out.2.1; omega) HOK.out.2.2.1 HOK.out.lvB 8 [] rfl (by omega) bv _ w3 hb3 ho3 (by have := HLn.out; omega)
      rw [show N (wayOf [] 3) = some x0 from hN, HPE.out] at this
      exact this)
    clear b1 b2 L2 hT hN hI hgrp HO k0 k1 hokc
    go_wp2_with fail
    try rw [hw2]
    clear hw2
    have HCS : Hid (∀ w', Below w2.heap.size w2 w' → (Below w2.heap.size w2 w' ∧ w'.cell? ⟨w1.heap.size, 0, none⟩ = some (.map (some x0.1)) ∧ w'.cell? ⟨w1.heap.size, 1, none⟩ = some (.map (some x0.2)) ∧ w'.cell? ⟨w1.heap.size, 2, none⟩ = some (.map (some bm)))) := hid (fun w' hB => by
      have X := HL2.out.below hB HL2.out.lt
      exact ⟨hB, X.c0, X.c1, X.c2⟩)
    clear c0 c1 c2 HL2
    refine wp_region_held_drew (S := fun w' => Below w2.heap.size w2 w' ∧ w'.cell? ⟨w1.heap.size, 0, none⟩ = some (.map (some x0.1)) ∧ w'.cell? ⟨w1.heap.size, 1, none⟩ = some (.map (some x0.2)) ∧ w'.cell? ⟨w1.heap.size, 2, none⟩ = some (.map (some bm))) (by kernel_rfl) (HCS.out _ (Below.refl _ _).drew) (fun hHeld => ?_)
    refine take1 (i := 0) (d := some 14) (v := ?_) (by kernel_rfl) (by kernel_rfl) (by kernel_rfl) (by kernel_rfl) (fun _ _ _ h => h) ?_ hHeld ?_
    rotate_left
    · (intro o ho; simp only [List.getElem?_toArray, List.getElem?_cons_succ, List.getElem?_cons_zero, Option.some.injEq] at ho; subst ho; refine Or.inl ⟨by rfl, ?_⟩; intro w hSw; (try dsimp only at hSw); go_simp; try with_reducible rfl)
    try simp only [Act.put, List.setIfInBounds_toArray, List.set_cons_zero, List.set_cons_succ]
    refine take1 (i := 1) (d := some 15) (v := ?_) (by kernel_rfl) (by kernel_rfl) (by kernel_rfl) (by kernel_rfl) (fun _ _ _ h => h) ?_ hHeld ?_
    rotate_left
    · (intro o ho; simp only [List.getElem?_toArray, List.getElem?_cons_succ, List.getElem?_cons_zero, Option.some.injEq] at ho; subst ho; refine Or.inl ⟨by rfl, ?_⟩; intro w hSw; (try dsimp only at hSw); go_simp; try with_reducible rfl)
    try simp only [Act.put, List.setIfInBounds_toArray, List.set_cons_zero, List.set_cons_succ]
    refine take1 (i := 2) (d := some 16) (v := ?_) (by kernel_rfl) (by kernel_rfl) (by kernel_rfl) (by kernel_rfl) (fun _ _ _ h => h) ?_ hHeld ?_
    rotate_left
    · (intro o ho; simp only [List.getElem?_toArray, List.getElem?_cons_succ, List.getElem?_cons_zero, Option.some.injEq] at ho; subst ho; refine Or.inl ⟨by rfl, ?_⟩; intro w hSw; (try dsimp only at hSw); go_simp; try with_reducible rfl)
    try simp only [Act.put, List.setIfInBounds_toArray, List.set_cons_zero, List.set_cons_succ]
    refine take1 (i := 3) (d := some 17) (v := ?_) (by kernel_rfl) (by kernel_rfl) (by kernel_rfl) (by kernel_rfl) (fun _ _ _ h => h) ?_ hHeld ?_
    rotate_left
    · (intro o ho; simp only [List.getElem?_toArray, List.getElem?_cons_succ, List.getElem?_cons_zero, Option.some.injEq] at ho; subst ho; refine Or.inl ⟨by rfl, ?_⟩; intro w hSw; (try dsimp only at hSw); go_simp; try with_reducible rfl)
    try simp only [Act.put, List.setIfInBounds_toArray, List.set_cons_zero, List.set_cons_succ]
    refine call1 (i := 4) (d := some 18) (by kernel_rfl) (by kernel_rfl) ?_
    intro o ho hod K hK; simp only [List.getElem?_toArray, List.getElem?_cons_succ, List.getElem?_cons_zero, Option.some.injEq] at ho; subst ho
    go_simp
    refine (HA.out _ hHeld.1).mono ?_
    rintro e w3 ⟨v3, rfl, o3, b3⟩
    have hB3 := keepS hHeld.1 b3
    have HO3 := hid (Own.weak o3 hHeld.1.size)
    refine hK.out _ _ (HCS.out _ hB3) (fun hHeld => ?_)
    clear hK K
    try simp only [Act.put, List.setIfInBounds_toArray, List.set_cons_zero, List.set_cons_succ]
    refine call1 (i := 5) (d := some 19) (by kernel_rfl) (by kernel_rfl) ?_
    intro o ho hod K hK; simp only [List.getElem?_toArray, List.getElem?_cons_succ, List.getElem?_cons_zero, Option.some.injEq] at ho; subst ho
    go_simp
    refine (HTN.out v3 w3 hB3 HO3.out).mono ?_
    rintro e w4 ⟨v4, rfl, o4, g4⟩
    have hB4 : Below w2.heap.size w2 w4 := hB3.trans (g4.below hB3.size (fun k hk => (World.ownsRow.lt HO3.out k hk).1))
    refine hK.out _ _ (HCS.out _ hB4) (fun hHeld => ?_)
    clear hK K
    try simp only [Act.put, List.setIfInBounds_toArray, List.set_cons_zero, List.set_cons_succ]
    refine take1 (i := 6) (d := some 6) (v := ?_) (by kernel_rfl) (by kernel_rfl) (by kernel_rfl) (by kernel_rfl) (fun _ _ _ h => h) ?_ hHeld ?_
    rotate_left
    · (intro o ho; simp only [List.getElem?_toArray, List.getElem?_cons_succ, List.getElem?_cons_zero, Option.some.injEq] at ho; subst ho; refine Or.inl ⟨by rfl, ?_⟩; intro w hSw; (try dsimp only at hSw); go_simp; try with_reducible rfl)
    try simp only [Act.put, List.setIfInBounds_toArray, List.set_cons_zero, List.set_cons_succ]
    refine wpAnyH_done (by kernel_rfl) ?_ _
    have HB4 := hid (keepS HZ.out hB4)
    have HO4 := hid (Own.weak o4 HZ.out.size)
    obtain ⟨av, cv, rfl, _⟩ := o4.any
    have hzl := HLz.out
    clear g4 o4 HO3 hB3 hB4 b3 o3 hHeld HTN HA HCS
    by_cases hz : Z.length ≤ 4000
    · have HP := hid (HPY.out hz)
      have d1 : decide ((4000 : Int) < (Z.length : Int)) = false := by simp; omega
      have d2 : decide (4000 < Z.length) = false := by simp; omega
      go_wp2_with fail
      go_ret2
      exact ⟨_, Z, 0, rfl, HP.out, HO4.out, HB4.out⟩
    · have HP := hid (HPL.out hz)
      have d1 : decide ((4000 : Int) < (Z.length : Int)) = true := by simp; omega
      have d2 : decide (4000 < Z.length) = true := by simp; omega
      go_wp2_with fail
      go_ret2
      exact ⟨_, [], 2, rfl, HP.out, World.ownsRow_nil _ _ _ _, HB4.out⟩
  · have HO := hid (openStateNo a c l x n d R F T W hn hp hi hm HL.out HR.out hok)
    have HPN := hid (psZ_no hok)
    obtain ⟨P, hP⟩ : ∃ P, psZ R F T n l = P := ⟨_, rfl⟩
    rw [hP] at HPN
    rw [hP]
    clear hP hok
    go_enter Tryz.func24, Tryz.ntmps24
    go_wp2_with fail
    try rw [hW]
    clear hW
    refine HO.out.mono ?_
    rintro e w1 ⟨rfl, b1⟩
    have HB1 := hid (keepS HB0.out b1)
    clear b1 HO k0 k1
    go_wp2_with fail
    go_ret2
    first | exact ⟨_, [], 1, rfl, HPN.out, World.ownsRow_nil _ _ _ _, HB1.out⟩ | exact ⟨_, [], 1, rfl, HPN.out, World.ownsRow_nil _ _ _ _, HB1.out.alloc HB1.out.size _⟩
end Go.Proofs.YtdenbicnckkdfaaGreat
