import Derived.Test.YtakmpmhjcngbbaaGreatDoorMgg29
import Derived.Test.YtakmpmhjcngbbaaGreatDoorMgg23
import Derived.Test.YtakmpmhjcngbbaaGreatDoorMgg22
import Derived.Test.YtakmpmhjcngbbaaGreatDoorMgg28
set_option linter.unusedVariables false
set_option linter.unusedSimpArgs false
set_option maxRecDepth 100000
set_option maxHeartbeats 40000000
namespace Go.Proofs.YtakmpmhjcngbbaaGreatDoor
open Go.ChangeShapes Go.WideShapes Go.ChangeAt Go.RowKit
theorem has_at (R F T : Nat → Int) (r f t : Int) : ∀ n, hasK R F T r f t n = true → ∃ k, k < n ∧ R k = r ∧ F k ≤ f ∧ t ≤ T k
  | 0, h => by simp [hasK] at h
  | n + 1, h => by
    simp only [hasK, Bool.or_eq_true, decide_eq_true_eq] at h
    rcases h with h | h
    · obtain ⟨k, hk, r⟩ := has_at R F T r f t n h
      exact ⟨k, by omega, r⟩
    · exact ⟨n, by omega, h⟩
theorem StOk.lvB {R F T : Nat → Int} {n : Nat} {l : List Lf} (h : StOk R F T n l) : LvB l := by
  obtain ⟨h1, h2, h3, h4⟩ := h
  have hok := (ctxB_iff.1 h1).1
  have key : ∀ i, i < l.length → (0 ≤ (gL l i).r ∧ (gL l i).r < 8) ∧ (0 ≤ (gL l i).q ∧ (gL l i).q ≤ 1000000000) := fun i hi => by
    obtain ⟨k, hk, e1, e2, e3⟩ := has_at R F T _ _ _ n (h3 i hi).2.1
    have := (hok k hk).1
    simp only [runOkB, Bool.and_eq_true, decide_eq_true_eq] at this
    omega
  exact ⟨fun i hi => (key i hi).1, fun i hi => (key i hi).2, fun i hi => (h3 i hi).1.2.1, h2, h4⟩
noncomputable def psB (R F T : Nat → Int) (n : Nat) (l : List Lf) : List Int := putB (Lk R F T n) ++ tB l 8 []
noncomputable def psZ (R F T : Nat → Int) (n : Nat) (l : List Lf) : List Int × Int :=
  if yes (StOk R F T n l) = true then (if (psB R F T n l).length ≤ 4000 then (psB R F T n l, 0) else ([], 2)) else ([], 1)
theorem psZ_no {R F T : Nat → Int} {n : Nat} {l : List Lf} (h : ¬ StOk R F T n l) : psZ R F T n l = ([], 1) := by unfold psZ; rw [if_neg (by rw [yes_f h]; simp)]
theorem psZ_long {R F T : Nat → Int} {n : Nat} {l : List Lf} (h : StOk R F T n l) (h2 : ¬ (psB R F T n l).length ≤ 4000) : psZ R F T n l = ([], 2) := by unfold psZ; rw [if_pos (yes_t h), if_neg h2]
theorem psZ_yes {R F T : Nat → Int} {n : Nat} {l : List Lf} (h : StOk R F T n l) (h2 : (psB R F T n l).length ≤ 4000) : psZ R F T n l = (psB R F T n l, 0) := by unfold psZ; rw [if_pos (yes_t h), if_pos h2]
theorem StOk.put_len {R F T : Nat → Int} {n : Nat} {l : List Lf} (h : StOk R F T n l) : (putB (Lk R F T n)).length ≤ 1000000 ∧ 0 < (putB (Lk R F T n)).length := by
  have := putZ_len R F T n
  unfold putZ at this
  rw [if_pos h.1] at this
  refine ⟨this, ?_⟩
  rw [putB_eq, List.length_append]
  have := (uvF_len 9 (KS (Lk R F T n) 8).length).2
  omega
theorem StOk.tree_len {R F T : Nat → Int} {n : Nat} {l : List Lf} (h : StOk R F T n l) : (tB l 8 []).length ≤ 2000000 := by
  have h1 := tB_len h.2.2.1 8 []
  have h2 := uK_le l [] l.length
  have h3 := h.2.1
  have h4 : (400 + 100 * 8) * uK l [] l.length ≤ 1200 * 1000 := Nat.mul_le_mul (by omega) (by omega)
  omega
theorem StOk.iv {R F T : Nat → Int} {n : Nat} {l : List Lf} (h : StOk R F T n l) : Iv l [] 0 (0 + l.length) := by
  refine ⟨fun j hj => ?_, by omega, by omega⟩
  rw [nx_ne]
  have := (h.2.2.1 j hj).1.1.1
  exact ⟨fun _ => ⟨by omega, by omega⟩, fun _ => ⟨List.nil_prefix, Nat.lt_of_lt_of_le Nat.zero_lt_one this⟩⟩
theorem LSeg.lat {w : World} {a : Option Addr} {l : List Lf} (h : LSeg w a l) (h0 : 0 < l.length) : ∃ b off, a = some ⟨b, off, none⟩ ∧ LAt w b off l 0 l.length := by
  rcases h with h | ⟨b, off, e, hb, hc⟩
  · omega
  · refine ⟨b, off, e, hb, fun t ht => ?_⟩
    rw [Nat.zero_add]
    exact hc t ht
theorem own_mt (w : World) (B : Nat) (hB : B ≤ w.heap.size) : Own (w.alloc (.cells #[] 5)) B (.slice (some ⟨w.heap.size, 0, none⟩) 0 0) [] := by
  have := World.ownsRow_lit (base := B) (e := 5) (size := 1) w #[] 0 hB (by unfold maxLen; omega) rfl
  simpa [Own] using this
theorem l4BytesC (a : Option Addr) (c : Nat) (l : List Lf) (x : Option Addr) (n d : Nat) (R F T : Nat → Int) (w : World) (hc : l.length ≤ c) (hcm : c ≤ 9223372036854775807) (hn : n ≤ 1048576) (h : LSeg w a l) (h' : RSeg w x n R F T) (hok : StOk R F T n l) :
    Calls Tryz.prog 28 #[.agg #[.slice a l.length c, .slice x n d]] w fun e w' => ∃ v, e = .returned v ∧ Own w' w.heap.size v (psB R F T n l) ∧ Below w.heap.size w w' := by
  obtain ⟨W, hW⟩ : ∃ W, w.alloc (.cells #[.slice a l.length c, .slice x n d] 28) = W := ⟨_, rfl⟩
  have b0 : Below w.heap.size w W := by rw [← hW]; exact (Below.refl _ _).alloc (Nat.le_refl _) _
  have B0 : Bx2 W w.heap.size (.slice a l.length c) (.slice x n d) := by rw [← hW]; exact Bx2.made _ _ _ _
  have k0 := B0.c0
  have k1 := B0.c1
  have HBX := hid B0
  have HL := hid (h.below b0)
  have HP := hid (specPut x n d R F T W hn (h'.below b0) hok.1)
  have HB0 := hid b0
  have HT : Hid (∀ w1, Below W.heap.size W w1 → Calls Tryz.prog 46 #[.slice a l.length c, .int .i64 0] w1 fun e w' => ∃ v, e = .returned v ∧ Own w' w1.heap.size v (tB l 8 []) ∧ Below w1.heap.size w1 w') := hid (fun w1 hb1 => by
    have := l4TreeC l hok.2.2.1 hok.lvB 8 [] rfl (by omega) 0 l.length c a w1 hc hcm hok.iv (fun h0 => (HL.out.below hb1).lat h0) (by have := hok.tree_len; omega)
    exact this)
  have HLn := hid (And.intro hok.put_len hok.tree_len)
  have HTP : Hid (0 < (tB l 8 []).length) := hid (tB_pos l 7 [])
  have HPS : Hid (putB (Lk R F T n) ++ tB l 8 [] = psB R F T n l) := hid rfl
  obtain ⟨Z, hZ⟩ : ∃ Z, psB R F T n l = Z := ⟨_, rfl⟩
  rw [hZ] at HPS ⊢
  clear hZ h h' b0 B0 hok
  go_enter Tryz.func28, Tryz.ntmps28
  go_wp2_with fail
  try rw [hW]
  clear hW
  refine HP.out.mono ?_
  rintro e w1 ⟨v1, rfl, o1, b1⟩
  have X1 := HBX.out.below b1 HBX.out.lt
  have q0 := X1.c0
  have q1 := X1.c1
  have HBd : Hid (Bd w w1 v1 (putB (Lk R F T n))) := hid ⟨keepS HB0.out b1, Own.weak o1 HB0.out.size, own_ne o1 HLn.out.1.2⟩
  have HT1 := hid (HT.out w1 b1)
  clear b1 o1 X1 HP HT HBX k0 k1
  go_wp2_with fail
  refine HT1.out.mono ?_
  rintro e w2 ⟨v2, rfl, o2, b2⟩
  obtain ⟨v3, w3, happ, bd3⟩ := HBd.out.app b2 o2 HTP.out (by have := HLn.out; omega)
  rw [HPS.out] at bd3
  have HBd3 := hid bd3
  clear bd3 b2 o2 HBd HT1 q0 q1
  go_wp2_with (at_builtin; refine wpList_app2 rfl _ _ _ _ rfl happ (by rfl) (by rfl) rfl ?_; clear happ)
  go_ret
  exact ⟨v3, rfl, HBd3.out.o, HBd3.out.b⟩
theorem specPutState (a : Option Addr) (c : Nat) (l : List Lf) (x : Option Addr) (n d : Nat) (R F T : Nat → Int) (w : World) (hc : l.length ≤ c) (hcm : c ≤ 9223372036854775807) (hl : l.length ≤ 1048576) (hp : LBd l) (hn : n ≤ 1048576) (h : LCap w a l) (h2 : LSeg w a l) (h' : RSeg w x n R F T) :
    Calls Tryz.prog 14 #[.agg #[.slice a l.length c, .slice x n d]] w fun e w' => ∃ v zs k, e = .returned (.tuple #[v, .int .i64 k]) ∧ psZ R F T n l = (zs, k) ∧ Own w' w.heap.size v zs ∧ Below w.heap.size w w' := by
  obtain ⟨W, hW⟩ : ∃ W, w.alloc (.cells #[.slice a l.length c, .slice x n d] 28) = W := ⟨_, rfl⟩
  have b0 : Below w.heap.size w W := by rw [← hW]; exact (Below.refl _ _).alloc (Nat.le_refl _) _
  have B0 : Bx2 W w.heap.size (.slice a l.length c) (.slice x n d) := by rw [← hW]; exact Bx2.made _ _ _ _
  have k0 := B0.c0
  have k1 := B0.c1
  have HBX := hid B0
  have HL := hid (h2.below b0)
  have HR := hid (h'.below b0)
  have HSO := hid (specStateOk a c l x n d R F T W hl hp hn (h.below b0) (h'.below b0))
  have HB0 := hid b0
  clear h h2 h' b0 B0
  by_cases hok : StOk R F T n l
  · rw [yes_t hok] at HSO
    have HBY : Hid (∀ w1, Below W.heap.size W w1 → Calls Tryz.prog 28 #[.agg #[.slice a l.length c, .slice x n d]] w1 fun e w' => ∃ v, e = .returned v ∧ Own w' w1.heap.size v (psB R F T n l) ∧ Below w1.heap.size w1 w') := hid (fun w1 hb => l4BytesC a c l x n d R F T w1 hc hcm hn (HL.out.below hb) (HR.out.below hb) hok)
    have HPY := hid (fun h => psZ_yes hok h)
    have HPL := hid (fun h => psZ_long hok h)
    have HLn : Hid ((psB R F T n l).length ≤ 1000000000) := hid (by have h1 := hok.put_len; have h2 := hok.tree_len; unfold psB; rw [List.length_append]; omega)
    obtain ⟨Z, hZ⟩ : ∃ Z, psB R F T n l = Z := ⟨_, rfl⟩
    obtain ⟨P, hP⟩ : ∃ P, psZ R F T n l = P := ⟨_, rfl⟩
    rw [hZ, hP] at HPY HPL
    rw [hZ] at HBY HLn
    rw [hP]
    clear hZ hP hok
    go_enter Tryz.func14, Tryz.ntmps14
    go_wp2_with fail
    try rw [hW]
    clear hW
    refine HSO.out.mono ?_
    rintro e w1 ⟨rfl, b1⟩
    have X1 := HBX.out.below b1 HBX.out.lt
    have q0 := X1.c0
    have q1 := X1.c1
    have HB1 := hid (keepS HB0.out b1)
    have HY1 := hid (HBY.out w1 b1)
    clear b1 X1 HSO HBX k0 k1 HBY
    go_wp2_with fail
    refine HY1.out.mono ?_
    rintro e w2 ⟨v2, rfl, o2, b2⟩
    have HO2 := hid (Own.weak o2 HB1.out.size)
    have HB2 := hid (keepS HB1.out b2)
    obtain ⟨av, cv, rfl, _⟩ := o2.any
    have hzl := HLn.out
    clear b2 o2 HY1 q0 q1
    by_cases hz : Z.length ≤ 4000
    · have HP := hid (HPY.out hz)
      have d1 : decide ((4000 : Int) < (Z.length : Int)) = false := by simp; omega
      have d2 : decide (4000 < Z.length) = false := by simp; omega
      go_wp2_with fail
      go_ret2
      exact ⟨_, Z, 0, rfl, HP.out, HO2.out, HB2.out⟩
    · have HP := hid (HPL.out hz)
      have d1 : decide ((4000 : Int) < (Z.length : Int)) = true := by simp; omega
      have d2 : decide (4000 < Z.length) = true := by simp; omega
      go_wp2_with fail
      go_ret2
      exact ⟨_, [], 2, rfl, HP.out, own_mt _ _ HB2.out.size, HB2.out.alloc HB2.out.size _⟩
  · rw [yes_f hok] at HSO
    have HPN := hid (psZ_no hok)
    obtain ⟨P, hP⟩ : ∃ P, psZ R F T n l = P := ⟨_, rfl⟩
    rw [hP] at HPN
    rw [hP]
    clear hP hok
    go_enter Tryz.func14, Tryz.ntmps14
    go_wp2_with fail
    try rw [hW]
    clear hW
    refine HSO.out.mono ?_
    rintro e w1 ⟨rfl, b1⟩
    have HB1 := hid (keepS HB0.out b1)
    clear b1 HSO HBX k0 k1
    go_wp2_with fail
    go_ret2
    exact ⟨_, [], 1, rfl, HPN.out, own_mt _ _ HB1.out.size, HB1.out.alloc HB1.out.size _⟩
def By (zs : List Int) : Prop := ∀ z ∈ zs, 0 ≤ z ∧ z < 256
theorem By.nil : By [] := fun z h => by cases h
theorem By.app {a b : List Int} (h : By a) (k : By b) : By (a ++ b) := fun z hz => by
  rcases List.mem_append.1 hz with h1 | h1
  · exact h z h1
  · exact k z h1
theorem By.flat {α : Type} {f : α → List Int} : ∀ {ys : List α}, (∀ y ∈ ys, By (f y)) → By (ys.flatMap f) := fun {ys} h z hz => by
  obtain ⟨y, hy, hz⟩ := List.mem_flatMap.1 hz
  exact h y hy z hz
theorem By.uv {v : Nat} (h : v ≤ 10000000000) : By (uvF 9 v) := uvF_byte 9 v (by omega)
theorem By.text {s : ByteArray} (h : s.size ≤ 10000000000) : By (textInts s) := By.app (By.uv h) (strInts_byte s)
theorem sx_rng {l : List (Int × Int)} (h : ∀ p ∈ l, 1 ≤ p.1 ∧ p.1 ≤ p.2 ∧ p.2 ≤ 1000000000) (i : Nat) : (0 ≤ sF l i ∧ sF l i ≤ 1000000000) ∧ 0 ≤ sT l i ∧ sT l i ≤ 1000000000 := by
  unfold sF sT
  by_cases hi : i < l.length
  · have e : l.getD i (0, 0) = l[i] := by simp [List.getD, hi]
    have := h _ (List.getElem_mem hi)
    rw [e]; omega
  · have e : l.getD i (0, 0) = (0, 0) := by simp [List.getD, List.getElem?_eq_none (Nat.le_of_not_lt hi)]
    rw [e]; simp
theorem spK_byte {l : List (Int × Int)} (h : ∀ p ∈ l, 1 ≤ p.1 ∧ p.1 ≤ p.2 ∧ p.2 ≤ 1000000000) : ∀ k, By (spK l k)
  | 0 => By.nil
  | k + 1 => by
    have h1 := sx_rng h k
    have h2 : 0 ≤ loK l k := by
      cases k with
      | zero => simp [loK]
      | succ k => have := sx_rng h k; simp only [loK]; omega
    exact By.app (spK_byte h k) (By.app (By.uv (by omega)) (By.uv (by omega)))
theorem putB_byte {R F T : Nat → Int} {n : Nat} (h : ctxB R F T n = true) : By (putB (Lk R F T n)) := by
  have hok := ctxB_iff.1 h
  rw [putB_eq]
  have h1 := KS_len (Lk R F T n) 8
  refine By.app (By.uv (by omega)) (By.flat fun r hr => ?_)
  have h2 := (KS_mem (Lk R F T n) 8 r).1 hr
  have h3 := Lk_len R F T n r
  have h4 := (Lk_srt n hok.1 r).1.2
  have h5 := hok.2
  exact By.app (By.uv (by omega)) (By.app (By.uv (by omega)) (spK_byte h4 _))
theorem tB_byte {R F T : Nat → Int} {n : Nat} {l : List Lf} (h : LvOk R F T n l l.length) (hb : LvB l) : ∀ f p, By (tB l f p)
  | 0, p => by intro z hz; simp [tB] at hz
  | f + 1, p => by
    obtain ⟨k1, k2⟩ := kS_ok p h l.length (Nat.le_refl _)
    have h1 := kS_len l p l.length
    have h2 := hb.len
    rw [tB_eq]
    refine By.app (By.uv (by omega)) (By.flat fun y hy => ?_)
    obtain ⟨j, hj, e⟩ := (k2 y).1 hy
    have t2 := nx_name (h j hj).1 e
    have e2 := (nx_some.1 e).2
    have hk : y.2 = 1 ∨ y.2 = 2 ∨ y.2 = 3 := by
      rw [← e2]
      unfold onWay
      dsimp only
      split
      · exact .inr (.inr rfl)
      · rcases kd_or (gL l j).fl with h | h
        · exact .inl h
        · exact .inr (.inl h)
    unfold kB
    refine By.app (By.text (by omega)) (By.app (fun z hz => by rw [List.mem_singleton] at hz; subst hz; omega) ?_)
    by_cases e3 : y.2 = 3
    · rw [if_pos e3]; exact tB_byte h hb f _
    · rw [if_neg e3]
      unfold mB
      have h3 := dsK_len l p y l.length
      refine By.app (By.uv (by omega)) (By.flat fun x hx => ?_)
      obtain ⟨i, hi, _, rfl⟩ := dsK_mem.1 hx
      have r1 := hb.rep i hi
      have r2 := hb.seq i hi
      have r3 := hb.val i hi
      unfold lfB
      refine By.app (By.uv (by omega)) (By.app (By.uv (by omega)) ?_)
      split
      · exact By.text (by omega)
      · exact By.nil
theorem By.byt {zs : List Int} (h : By zs) : Byt (fun i => zs.getD i 0) := fun i => by
  by_cases hi : i < zs.length
  · have e : zs.getD i 0 = zs[i] := by simp [List.getD, hi]
    have := h _ (List.getElem_mem hi)
    dsimp only
    rw [e]; omega
  · have e : zs.getD i 0 = 0 := by simp [List.getD, List.getElem?_eq_none (Nat.le_of_not_lt hi)]
    dsimp only
    rw [e]; omega
end Go.Proofs.YtakmpmhjcngbbaaGreatDoor
namespace Go.Proofs.YtakmpmhjcngbbaaGreatDoor
noncomputable def gsR (f : Nat → Int) (n : Nat) : Option (List (Int × List (Int × Int)) × List Lf) :=
  if 4000 < n then none else (rdC f n 0).bind fun a => (rdTr f n (fun r q => inB (lkS a.1 r) q q) 9 [] [] a.2).bind fun b => if b.2 < n then none else some (a.1, b.1)
noncomputable def gsS (f : Nat → Int) (n : Nat) : Option (List Rn × List Lf) :=
  if 4000 < n then none else (ldCtx f n 0).bind fun a => (ldTr f n 9 [] [] a.2).bind fun b =>
    if yes (b.2 = n ∧ (psZ (lR a.1) (lF a.1) (lT a.1) a.1.length b.1).2 = 0 ∧ strF (fun i => (psZ (lR a.1) (lF a.1) (lT a.1) a.1.length b.1).1.getD i 0) 0 (psZ (lR a.1) (lF a.1) (lT a.1) a.1.length b.1).1.length = strF f 0 n) = true then some (a.1, b.1) else none
theorem flatMap_same {α β : Type} {f g : α → List β} : ∀ {ys : List α}, (∀ y ∈ ys, f y = g y) → ys.flatMap f = ys.flatMap g
  | [], _ => rfl
  | y :: ys, h => by
    rw [List.flatMap_cons, List.flatMap_cons, h y List.mem_cons_self, flatMap_same fun z hz => h z (List.mem_cons_of_mem _ hz)]
theorem tB_deep {R F T : Nat → Int} {n : Nat} {l : List Lf} (h : LvOk R F T n l l.length) : ∀ (d : Nat) (p : List ByteArray), p.length + (d + 1) = 8 → tB l (d + 1) p = tB l (d + 2) p
  | d, p, hp => by
    rw [tB_eq, tB_eq]
    congr 1
    refine flatMap_same fun y hy => ?_
    unfold kB
    by_cases h3 : y.2 = 3
    · obtain ⟨j, hj, hn⟩ := ((kS_ok p h l.length (Nat.le_refl _)).2 y).1 hy
      have ey : y = (y.1, 3) := by rw [← h3]
      have hm : nx (p ++ [y.1]) (gL l j) ≠ none := nx_map.1 (by rw [← ey]; exact hn)
      have hp2 := (nx_ne.1 hm).2
      have h8 := (h j hj).1.1.2.1
      simp at hp2
      rw [if_pos h3, if_pos h3]
      match d, hp with
      | 0, hp => omega
      | d + 1, hp => rw [tB_deep h d (p ++ [y.1]) (by simp; omega)]
    · rw [if_neg h3, if_neg h3]
theorem ctx_K {R F T : Nat → Int} {m : Nat} (h : ctxB R F T m = true) : KOk (fun r q => hasK R F T r q q m) := fun r q hq => by
  obtain ⟨k, hk, e1, e2, e3⟩ := has_at R F T r q q m hq
  have := ((ctxB_iff.1 h).1 k hk).1
  simp only [runOkB, Bool.and_eq_true, decide_eq_true_eq] at this
  omega
theorem grp_K {g : List (Int × List (Int × Int))} (hok : okR (-1) 1000 g) : (fun r q => inB (lkS g r) q q) = fun r q => hasK (lR (flatG g)) (lF (flatG g)) (lT (flatG g)) r q q (flatG g).length := by
  funext r q
  rw [lkS_eq hok, ← (groups_ctx hok).2.1, in_hasK]
theorem at_all {f : Nat → Int} {U : List Int} (h : At f 0 U) (hb : Byt f) : strF (fun i => U.getD i 0) 0 U.length = strF f 0 U.length := by
  have e : (List.range U.length).map (fun i => UInt8.ofNat ((fun i => U.getD i 0) (0 + i)).toNat) = (List.range U.length).map (fun i => UInt8.ofNat (f (0 + i)).toNat) := by
    refine List.map_congr_left fun i hi => ?_
    have := h i (List.mem_range.1 hi)
    dsimp only
    rw [this, Nat.zero_add]
  unfold strF
  rw [e]
theorem all_at {f : Nat → Int} {n : Nat} {U : List Int} (hf : Byt f) (hU : By U) (h : strF (fun i => U.getD i 0) 0 U.length = strF f 0 n) : U.length = n ∧ At f 0 U := by
  have hl : U.length = n := by
    have := congrArg ByteArray.size h
    rwa [strF_size, strF_size] at this
  subst hl
  refine ⟨rfl, fun i hi => ?_⟩
  have := congrArg strInts h
  rw [strInts_strF hU.byt, strInts_strF hf] at this
  have h2 := congrArg (fun l => l[i]?) this
  simp [hi] at h2
  rw [Nat.zero_add, ← h2]
  simp [List.getD, hi]
theorem gs_eq {f : Nat → Int} (hf : Byt f) (n : Nat) : gsS f n = (gsR f n).map fun a => (flatG a.1, a.2) := by
  have ir : ∀ g J, gsR f n = some (g, J) → gsS f n = some (flatG g, J) := fun g J h => by
    unfold gsR at h
    unfold gsS
    by_cases h4 : 4000 < n
    · rw [if_pos h4] at h; cases h
    · rw [if_neg h4] at h ⊢
      obtain ⟨a, ha, h⟩ := bind_some_iff.1 h
      obtain ⟨b, hb, h⟩ := bind_some_iff.1 h
      split at h
      · cases h
      · rename_i hbn
        simp only [Option.some.injEq, Prod.mk.injEq] at h
        obtain ⟨rfl, rfl⟩ := h
        obtain ⟨g, x1⟩ := a
        obtain ⟨J, x'⟩ := b
        simp only at hb hbn ⊢
        rw [show ((0 : Int)) = ((0 : Nat) : Int) from rfl, rdC_nat] at ha
        obtain ⟨hok, hA, hx1, hx1n⟩ := (rdCtx_iff hf (Nat.zero_le _)).1 ha
        rw [ldCtx_of hf (Nat.zero_le _) ha]
        simp only [Option.bind_some]
        obtain ⟨c1, c2, c3, c4⟩ := groups_ctx hok
        rw [grp_K hok] at hb
        rw [ldTr_of hf 9 hb]
        simp only [Option.bind_some]
        obtain ⟨⟨v1, v2, v3⟩, hA2, hx', hx'n⟩ := (strict_iff hf (ctx_K c1)).1 ⟨hb, hx1n⟩
        have hst : StOk (lR (flatG g)) (lF (flatG g)) (lT (flatG g)) (flatG g).length J := ⟨c1, v3, v1, v2⟩
        have hps : psB (lR (flatG g)) (lF (flatG g)) (lT (flatG g)) (flatG g).length J = encC g ++ tB J 9 [] := by
          unfold psB
          rw [c2, c3, tB_deep v1 7 [] rfl]
        have hlen : (encC g ++ tB J 9 []).length = n := by rw [List.length_append]; omega
        have hz := psZ_yes hst (by rw [hps, hlen]; omega)
        have hAt : At f 0 (encC g ++ tB J 9 []) := At.app.2 ⟨hA, by rw [Nat.zero_add] at hx1 ⊢; rw [← hx1]; exact hA2⟩
        rw [yes_t]
        · rfl
        · rw [hz, hps]
          refine ⟨by omega, rfl, ?_⟩
          have := at_all hAt hf
          rw [hlen] at this
          rw [hlen]
          exact this
  have ri : ∀ rl J, gsS f n = some (rl, J) → ∃ g, gsR f n = some (g, J) ∧ flatG g = rl := fun rl J h => by
    unfold gsS at h
    by_cases h4 : 4000 < n
    · rw [if_pos h4] at h; cases h
    · rw [if_neg h4] at h
      obtain ⟨a, ha, h⟩ := bind_some_iff.1 h
      obtain ⟨b, hb, h⟩ := bind_some_iff.1 h
      by_cases hy : b.2 = n ∧ (psZ (lR a.1) (lF a.1) (lT a.1) a.1.length b.1).2 = 0 ∧ strF (fun i => (psZ (lR a.1) (lF a.1) (lT a.1) a.1.length b.1).1.getD i 0) 0 (psZ (lR a.1) (lF a.1) (lT a.1) a.1.length b.1).1.length = strF f 0 n
      · rw [yes_t hy] at h
        simp only [if_true, Option.some.injEq, Prod.mk.injEq] at h
        obtain ⟨rfl, rfl⟩ := h
        obtain ⟨hbn, hy2, hy3⟩ := hy
        obtain ⟨rl, x1⟩ := a
        obtain ⟨J, x'⟩ := b
        simp only at hy2 hy3 hbn ⊢
        have hst : StOk (lR rl) (lF rl) (lT rl) rl.length J := by
          by_cases e : StOk (lR rl) (lF rl) (lT rl) rl.length J
          · exact e
          · rw [psZ_no e] at hy2; cases hy2
        have h40 : (psB (lR rl) (lF rl) (lT rl) rl.length J).length ≤ 4000 := by
          by_cases e : (psB (lR rl) (lF rl) (lT rl) rl.length J).length ≤ 4000
          · exact e
          · rw [psZ_long hst e] at hy2; cases hy2
        rw [psZ_yes hst h40] at hy3
        simp only at hy3
        obtain ⟨g1, g2, g3⟩ := ctx_groups hst.1
        rw [flat_list] at g3
        have hlv : LvB J := hst.lvB
        obtain ⟨hl, hA⟩ := all_at hf (U := psB (lR rl) (lF rl) (lT rl) rl.length J) (By.app (putB_byte hst.1) (tB_byte hst.2.2.1 hlv _ _)) hy3
        unfold psB at hl hA
        rw [List.length_append] at hl
        rw [At.app, Nat.zero_add] at hA
        have hr : rdCtx f n 0 = some (grps (Lk (lR rl) (lF rl) (lT rl) rl.length), 0 + (encC (grps (Lk (lR rl) (lF rl) (lT rl) rl.length))).length) := (rdCtx_iff hf (Nat.zero_le _)).2 ⟨g1, by rw [g2]; exact hA.1, rfl, by rw [g2]; omega⟩
        refine ⟨grps (Lk (lR rl) (lF rl) (lT rl) rl.length), ?_, g3⟩
        unfold gsR
        rw [if_neg h4, show ((0 : Int)) = ((0 : Nat) : Int) from rfl, rdC_nat, hr]
        simp only [Option.bind_some]
        rw [grp_K g1, g3, g2, Nat.zero_add]
        have e9 : tB J 9 [] = tB J 8 [] := (tB_deep hst.2.2.1 7 [] rfl).symm
        have ht := ((strict_iff (n := n) hf (ctx_K hst.1) (x := (putB (Lk (lR rl) (lF rl) (lT rl) rl.length)).length) (x' := n) (l := J)).2 ⟨⟨hst.2.2.1, hst.2.2.2, hst.2.1⟩, by rw [e9]; exact hA.2, by rw [e9]; omega, Nat.le_refl _⟩).1
        rw [ht]
        simp
      · rw [yes_f hy] at h; cases h
  cases h : gsR f n with
  | none =>
    cases h2 : gsS f n with
    | none => rfl
    | some b =>
      obtain ⟨g, hg, _⟩ := ri b.1 b.2 h2
      rw [h] at hg; cases hg
  | some a => exact ir a.1 a.2 h
end Go.Proofs.YtakmpmhjcngbbaaGreatDoor
namespace Go.Proofs.YtakmpmhjcngbbaaGreatDoor
open Go.ChangeShapes Go.WideShapes Go.ChangeAt Go.RowKit
def mP (l : List Lf) (k0 : Nat) : Nat → Nat
  | 0 => k0
  | i + 1 => mP l k0 i + (gL l i).p.length + 4
def mLf (k n : Nat) : Lf := ⟨(List.range n).map fun t => mkT (k + t), ((k + n : Nat) : Int) % 3 == 0, ((k + n + 1 : Nat) : Int), ((k + n + 2 : Nat) : Int), mkT (k + n + 3)⟩
def mkL (l : List Lf) (k0 : Nat) : List Lf := (List.range l.length).map fun i => mLf (mP l k0 i) (gL l i).p.length
theorem mkL_len (l : List Lf) (k0 : Nat) : (mkL l k0).length = l.length := by simp [mkL]
theorem mkL_at (l : List Lf) (k0 : Nat) {i : Nat} (hi : i < l.length) : gL (mkL l k0) i = mLf (mP l k0 i) (gL l i).p.length := by simp [gL, mkL, List.getD, hi]
theorem mLf_len (k n : Nat) : (mLf k n).p.length = n := by simp [mLf]
theorem mLf_s (k n : Nat) {t : Nat} (ht : t < n) : gS (mLf k n).p t = mkT (k + t) := by simp [gS, mLf, List.getD, ht]
theorem mP_le {l : List Lf} {k0 : Nat} (hp : ∀ i, (gL l i).p.length ≤ 1048576) : ∀ i, mP l k0 i ≤ k0 + i * 1048580
  | 0 => by simp [mP]
  | i + 1 => by have := mP_le (k0 := k0) hp i; have := hp i; simp only [mP]; omega
structure LWy (lo hi b : Nat) (l : List Lf) (P : Nat → Option Addr) (G : Nat → Nat) : Prop where
  b1 : lo ≤ b
  b2 : b < hi
  g1 : ∀ i, i < l.length → 0 < (gL l i).p.length → P i = some ⟨G i, 0, none⟩ ∧ G i ≠ b ∧ lo ≤ G i ∧ G i < hi
  sep : ∀ i j, i < l.length → j < l.length → 0 < (gL l i).p.length → 0 < (gL l j).p.length → i ≠ j → G i ≠ G j
structure LIn (w0 w : World) (lo hi b : Nat) (l : List Lf) (P : Nat → Option Addr) (Q G : Nat → Nat) (k0 js jc : Nat) : Prop where
  low : Btw lo hi w0 w
  run : ∀ (q : Nat) (cur : Array Value), w0.heap[q]? = some (Obj.cells cur 64 (0, 0)) → w.heap[q]? = w0.heap[q]?
  wr : ∃ C, Wr w b 89 (l.length * 5) C
  pth : ∀ i, i < l.length → w.cell? ⟨b, i * 5, none⟩ = some (.slice (P i) (gL l i).p.length (Q i))
  todo : ∀ i, js ≤ i → i < l.length → 0 < (gL l i).p.length → PMk w (G i) (gL l i).p.length
  done : ∀ i, i < js → i < l.length → 0 < (gL l i).p.length → Wr w (G i) 9 (gL l i).p.length (fun t => .string (mkT (mP l k0 i + t)))
  cel : ∀ i, i < jc → i < l.length → w.cell? ⟨b, i * 5 + 1, none⟩ = some (.bool (mLf (mP l k0 i) (gL l i).p.length).fl) ∧ w.cell? ⟨b, i * 5 + 2, none⟩ = some (.int .i64 (mLf (mP l k0 i) (gL l i).p.length).r) ∧ w.cell? ⟨b, i * 5 + 3, none⟩ = some (.int .i64 (mLf (mP l k0 i) (gL l i).p.length).q) ∧ w.cell? ⟨b, i * 5 + 4, none⟩ = some (.string (mLf (mP l k0 i) (gL l i).p.length).v)
theorem LIn.below {w0 w w' : World} {lo hi b : Nat} {l : List Lf} {P : Nat → Option Addr} {Q G : Nat → Nat} {k0 js jc : Nat} (h : LIn w0 w lo hi b l P Q G k0 js jc) (hb : Below w.heap.size w w') : LIn w0 w' lo hi b l P Q G k0 js jc := by
  obtain ⟨C, hC⟩ := h.wr
  have e := hb.block b hC.lt
  have q : ∀ i, w'.cell? ⟨b, i, none⟩ = w.cell? ⟨b, i, none⟩ := fun i => World.cell?_of_block (a := ⟨b, i, none⟩) e
  refine ⟨h.low.trans (Btw.below hb), fun q cur hq => (hb.block q (Nat.lt_of_lt_of_le (Array.getElem?_eq_some_iff.1 hq).1 h.low.size)).trans (h.run q cur hq), ⟨C, hC.same e⟩, fun i hi => (q _).trans (h.pth i hi), fun i h1 h2 h3 => ?_, fun i h1 h2 h3 => ?_, fun i h1 h2 => ?_⟩
  · obtain ⟨cur, k1, k2⟩ := h.todo i h1 h2 h3
    exact ⟨cur, (hb.block _ (Array.getElem?_eq_some_iff.1 k1).1).trans k1, k2⟩
  · exact (h.done i h1 h2 h3).same (hb.block _ (h.done i h1 h2 h3).lt)
  · rw [q, q, q, q]; exact h.cel i h1 h2
theorem LIn.set {w0 w : World} {lo hi b : Nat} {l : List Lf} {P : Nat → Option Addr} {Q G : Nat → Nat} {k0 js jc : Nat} (hw : LWy lo hi b l P G) (h : LIn w0 w lo hi b l P Q G k0 js jc) (o : Nat) (u : Value) (ho : jc * 5 < o ∧ o < jc * 5 + 5) : LIn w0 (w.setCell ⟨b, o, none⟩ u) lo hi b l P Q G k0 js jc := by
  obtain ⟨C, hC⟩ := h.wr
  have q : ∀ i, i ≠ o → (w.setCell ⟨b, o, none⟩ u).cell? ⟨b, i, none⟩ = w.cell? ⟨b, i, none⟩ := fun i hi => by simp [World.cell?_setCell_other, Ne.symm hi]
  refine ⟨h.low.set _ _ hw.b1 hw.b2, fun q cur hq => ?_, ⟨_, hC.set o u⟩, fun i hi => (q _ (by omega)).trans (h.pth i hi), fun i h1 h2 h3 => (h.todo i h1 h2 h3).any, fun i h1 h2 h3 => ?_, fun i h1 h2 => ?_⟩
  · refine (Below.heap_setCell _ _ _ _ ?_).trans (h.run q cur hq)
    intro e
    have e' : q = b := e
    subst e'
    obtain ⟨cur', k1, _⟩ := hC
    rw [h.run _ _ hq, hq] at k1
    injection k1 with k1
    injection k1 with _ k2
    exact absurd k2 (by decide)
  · exact (h.done i h1 h2 h3).same (Below.heap_setCell _ _ _ _ (hw.g1 i h2 h3).2.1)
  · rw [q _ (by omega), q _ (by omega), q _ (by omega), q _ (by omega)]; exact h.cel i h1 h2
theorem LIn.str {w0 w w' : World} {lo hi b : Nat} {l : List Lf} {P : Nat → Option Addr} {Q G : Nat → Nat} {k0 js : Nat} (hw : LWy lo hi b l P G) (h : LIn w0 w lo hi b l P Q G k0 js js) (hj : js < l.length) (h0 : 0 < (gL l js).p.length) (hg : w.grownBy w' (some (G js))) (hc : Wr w' (G js) 9 (gL l js).p.length (fun t => .string (mkT (mP l k0 js + t)))) (hpm : ∀ g' n', PMk w g' n' → PMk w' g' n') : LIn w0 w' lo hi b l P Q G k0 (js + 1) js := by
  obtain ⟨C, hC⟩ := h.wr
  have hs := hw.g1 js hj h0
  have e := hg.block b hC.lt (fun e => hs.2.1 (by injection e with e; exact e.symm))
  have q : ∀ i, w'.cell? ⟨b, i, none⟩ = w.cell? ⟨b, i, none⟩ := fun i => World.cell?_of_block (a := ⟨b, i, none⟩) e
  refine ⟨h.low.trans (Btw.of hg hs.2.2.1 hs.2.2.2), fun q cur hq => ?_, ⟨C, hC.same e⟩, fun i hi => (q _).trans (h.pth i hi), fun i h1 h2 h3 => hpm _ _ (h.todo i (by omega) h2 h3), fun i h1 h2 h3 => ?_, fun i h1 h2 => ?_⟩
  · refine (hg.block q (Nat.lt_of_lt_of_le (Array.getElem?_eq_some_iff.1 hq).1 h.low.size) (fun e => ?_)).trans (h.run q cur hq)
    injection e with e
    subst e
    obtain ⟨cur', k1, _⟩ := h.todo js (Nat.le_refl _) hj h0
    rw [h.run _ _ hq, hq] at k1
    injection k1 with k1
    injection k1 with _ k2
    exact absurd k2 (by decide)
  · by_cases ei : i = js
    · subst ei; exact hc
    · have hd := h.done i (by omega) h2 h3
      exact hd.same (hg.block _ hd.lt (fun e => by injection e with e; exact hw.sep i js h2 hj h3 h0 ei e))
  · rw [q, q, q, q]; exact h.cel i h1 h2
theorem LIn.skip {w0 w : World} {lo hi b : Nat} {l : List Lf} {P : Nat → Option Addr} {Q G : Nat → Nat} {k0 js jc : Nat} (h : LIn w0 w lo hi b l P Q G k0 js jc) (h0 : (gL l js).p.length = 0) : LIn w0 w lo hi b l P Q G k0 (js + 1) jc :=
  ⟨h.low, h.run, h.wr, h.pth, fun i h1 => h.todo i (by omega), fun i h1 h2 h3 => by
    by_cases ei : i = js
    · subst ei; omega
    · exact h.done i (by omega) h2 h3, h.cel⟩
theorem LIn.seg {w0 w w' : World} {lo hi b : Nat} {l : List Lf} {P : Nat → Option Addr} {Q G : Nat → Nat} {k0 : Nat} (hw : LWy lo hi b l P G) (h : LIn w0 w lo hi b l P Q G k0 l.length l.length) (hs : w.heap.size ≤ w'.heap.size) (hq : ∀ q, lo ≤ q → q < hi → q < w.heap.size → (∀ cur, w0.heap[q]? ≠ some (Obj.cells cur 64 (0, 0))) → w'.heap[q]? = w.heap[q]?) : LSeg w' (some ⟨b, 0, none⟩) (mkL l k0) := by
  obtain ⟨C, hC⟩ := h.wr
  have eb : w'.heap[b]? = w.heap[b]? := hq b hw.b1 hw.b2 hC.lt (fun cur e => by
    obtain ⟨cur', k1, _⟩ := hC
    rw [h.run _ _ e, e] at k1
    injection k1 with k1
    injection k1 with _ k2
    exact absurd k2 (by decide))
  have q : ∀ i, w'.cell? ⟨b, i, none⟩ = w.cell? ⟨b, i, none⟩ := fun i => World.cell?_of_block (a := ⟨b, i, none⟩) eb
  refine .inr ⟨b, 0, rfl, Nat.lt_of_lt_of_le hC.lt hs, fun i hi => ?_⟩
  rw [mkL_len] at hi
  have c := h.cel i hi hi
  rw [mkL_at l k0 hi, mLf_len, q, q, q, q, q]
  refine ⟨P i, Q i, by simpa using h.pth i hi, ?_, by simpa using c.1, by simpa using c.2.1, by simpa using c.2.2.1, by simpa using c.2.2.2⟩
  by_cases h0 : 0 < (gL l i).p.length
  · have hd := h.done i hi hi h0
    have eg : w'.heap[G i]? = w.heap[G i]? := hq (G i) (hw.g1 i hi h0).2.2.1 (hw.g1 i hi h0).2.2.2 hd.lt (fun cur e => by
      obtain ⟨cur', k1, _⟩ := hd
      rw [h.run _ _ e, e] at k1
      injection k1 with k1
      injection k1 with _ k2
      exact absurd k2 (by decide))
    have hd' := hd.same eg
    refine .inr ⟨G i, 0, (hw.g1 i hi h0).1, hd'.lt, fun t ht => ?_⟩
    rw [mLf_len] at ht
    rw [mLf_s _ _ ht]
    simpa using hd'.cell ht
  · exact .inl (by rw [mLf_len]; omega)
theorem markStrs0 (a : Option Addr) (c k0 : Nat) (w : World) : Calls Tryz.prog 35 #[.slice a 0 c, .int .i64 (k0 : Int)] w fun e w' => e = .returned (.int .i64 (k0 : Int)) ∧ w' = w := by
  go_enter Tryz.func35, Tryz.ntmps35
  go_wp2_with fail
  refine wp_loop_rounds 1 ?_; rw [rounds_succ]; go_wp2_with fail
  go_ret
  exact ⟨rfl, rfl⟩
theorem LIn.mark {w0 w : World} {lo hi b : Nat} {l : List Lf} {P : Nat → Option Addr} {Q G : Nat → Nat} {k0 js : Nat} (hw : LWy lo hi b l P G) (h : LIn w0 w lo hi b l P Q G k0 js js) (hj : js < l.length) (hk : mP l k0 js + (gL l js).p.length ≤ 10000000000000) :
    Calls Tryz.prog 35 #[.slice (P js) (gL l js).p.length (Q js), .int .i64 (mP l k0 js : Int)] w fun e w' => e = .returned (.int .i64 ((mP l k0 js + (gL l js).p.length : Nat) : Int)) ∧ LIn w0 w' lo hi b l P Q G k0 (js + 1) js := by
  by_cases h0 : 0 < (gL l js).p.length
  · obtain ⟨C, hC⟩ := (h.todo js (Nat.le_refl _) hj h0).wr
    rw [(hw.g1 js hj h0).1]
    refine (markStrings (G js) (gL l js).p.length (Q js) (mP l k0 js) C w hk hC).mono ?_
    rintro e w' ⟨rfl, g1, g2, g3⟩
    exact ⟨rfl, h.str hw hj h0 g1 g2 g3⟩
  · have hz : (gL l js).p.length = 0 := by omega
    rw [hz]
    refine (markStrs0 (P js) (Q js) (mP l k0 js) w).mono ?_
    rintro e w' ⟨rfl, rfl⟩
    exact ⟨rfl, h.skip hz⟩
theorem markLeavesK (lo hi b c k0 : Nat) (l : List Lf) (P : Nat → Option Addr) (Q G : Nat → Nat) (w : World) (hk : k0 ≤ 4000000000000) (hn : l.length ≤ 1048576) (hp : ∀ i, (gL l i).p.length ≤ 1048576) (hw : LWy lo hi b l P G) (h : LIn w w lo hi b l P Q G k0 0 0) :
    Calls Tryz.prog 19 #[.slice (some ⟨b, 0, none⟩) l.length c, .int .i64 (k0 : Int)] w fun e w' => e = .returned (.int .i64 (mP l k0 l.length : Int)) ∧ LIn w w' lo hi b l P Q G k0 l.length l.length := by
  have HI := hid h
  have HW := hid hw
  have HMP : Hid (∀ j, j < l.length → ∀ wr, LIn w wr lo hi b l P Q G k0 j j → Calls Tryz.prog 35 #[.slice (P j) (gL l j).p.length (Q j), .int .i64 (mP l k0 j : Int)] wr fun e w' => e = .returned (.int .i64 ((mP l k0 j + (gL l j).p.length : Nat) : Int)) ∧ LIn w w' lo hi b l P Q G k0 (j + 1) j) := hid (fun j hj wr hI => hI.mark hw hj (by have := mP_le (k0 := k0) hp j; have := hp j; omega))
  have HLE := hid (mP_le (l := l) (k0 := k0) hp)
  clear h hw
  go_enter Tryz.func19, Tryz.ntmps19
  go_wp2_with fail
  go_loopw [1, 5] (fun q i wr => ∃ (j m : Nat), j ≤ l.length ∧ i = .int .i64 (j : Int) ∧ q = .int .i64 (m : Int) ∧ Hid (mP l k0 j = m) ∧ Hid (LIn w wr lo hi b l P Q G k0 j j)) (fun _ i _ => l.length - (intOf i).toNat)
  case atStart => exact ⟨0, k0, Nat.zero_le _, rfl, rfl, hid rfl, HI⟩
  case round =>
    obtain ⟨j, m, hj, rfl, rfl, HM, HL⟩ := hrel
    by_cases hlt : j < l.length
    · have i1 : (0 : Int) ≤ (j : Int) := Int.natCast_nonneg _
      have i2 : (j : Int) < (l.length : Int) := by omega
      have g1 := HL.out.pth j hlt
      have HMS := hid (HMP.out j hlt wr HL.out)
      have hpj := hp j
      have hmj : m ≤ k0 + j * 1048580 := by have := HLE.out j; rw [HM.out] at this; exact this
      have HNX : Hid (mP l k0 (j + 1) = m + (gL l j).p.length + 4) := hid (by simp only [mP]; rw [HM.out])
      have HCE : Hid (∀ w', w'.cell? ⟨b, j * 5 + 1, none⟩ = some (.bool (((m + (gL l j).p.length : Nat) : Int) % 3 == 0)) → w'.cell? ⟨b, j * 5 + 2, none⟩ = some (.int .i64 ((m + (gL l j).p.length + 1 : Nat) : Int)) → w'.cell? ⟨b, j * 5 + 3, none⟩ = some (.int .i64 ((m + (gL l j).p.length + 2 : Nat) : Int)) → w'.cell? ⟨b, j * 5 + 4, none⟩ = some (.string (mkT (m + (gL l j).p.length + 3))) → LIn w w' lo hi b l P Q G k0 (j + 1) j → LIn w w' lo hi b l P Q G k0 (j + 1) (j + 1)) := hid (fun w' c1 c2 c3 c4 h => ⟨h.low, h.run, h.wr, h.pth, h.todo, h.done, fun i h1 h2 => by
        by_cases ei : i = j
        · subst ei; rw [HM.out]; exact ⟨c1, c2, c3, c4⟩
        · exact h.cel i (by omega) h2⟩)
      obtain ⟨np, hnp⟩ : ∃ np, (gL l j).p.length = np := ⟨_, rfl⟩
      rw [HM.out] at HMS
      rw [hnp] at g1 hpj HMS HNX HCE
      clear hnp
      obtain ⟨pj, hpj'⟩ : ∃ pj, P j = pj := ⟨_, rfl⟩
      obtain ⟨qj, hqj⟩ : ∃ qj, Q j = qj := ⟨_, rfl⟩
      rw [hpj', hqj] at g1 HMS
      clear hpj' hqj
      go_wp2_with fail
      refine HMS.out.mono ?_
      rintro e w1 ⟨rfl, L1⟩
      obtain ⟨C, hC⟩ := L1.wr
      have HL1 := hid L1
      obtain ⟨m1, hm1⟩ : ∃ m1, m + np = m1 := ⟨_, rfl⟩
      have hm2 : m1 ≤ k0 + j * 1048580 + 1048576 := by omega
      rw [hm1] at HNX HCE ⊢
      have c1 := hC.cell (i := j * 5 + 1) (by omega)
      have c2 := hC.cell (i := j * 5 + 2) (by omega)
      have c3 := hC.cell (i := j * 5 + 3) (by omega)
      have f1 := hC.frozen (j * 5 + 1)
      have f2 := hC.frozen (j * 5 + 2)
      have f3 := hC.frozen (j * 5 + 3)
      have HC := hid hC
      clear hC L1 HMS hm1 g1 HL HMP
      go_wp2_with fail
      obtain ⟨W3, hW3⟩ : ∃ W3, ((w1.setCell ⟨b, j * 5 + 1, none⟩ (.bool ((m1 : Int) % 3 == 0))).setCell ⟨b, j * 5 + 2, none⟩ (.int .i64 ((m1 : Int) + 1))).setCell ⟨b, j * 5 + 2 + 1, none⟩ (.int .i64 ((m1 : Int) + 1 + 1)) = W3 := ⟨_, rfl⟩
      rw [hW3]
      have L3 : LIn w W3 lo hi b l P Q G k0 (j + 1) j := by rw [← hW3]; exact ((HL1.out.set HW.out _ _ (by omega)).set HW.out _ _ (by omega)).set HW.out _ _ (by omega)
      have C3 := ((HC.out.set (j * 5 + 1) (.bool ((m1 : Int) % 3 == 0))).set (j * 5 + 2) (.int .i64 ((m1 : Int) + 1))).set (j * 5 + 2 + 1) (.int .i64 ((m1 : Int) + 1 + 1))
      rw [hW3] at C3
      have MT := markTextC (m1 + 3) W3 (by omega)
      have e3 : ((m1 + 3 : Nat) : Int) = (m1 : Int) + 1 + 1 + 1 := by omega
      rw [e3] at MT
      clear hW3 c1 c2 c3 f1 f2 f3 HL1 e3
      refine MT.mono ?_
      rintro e w4 ⟨rfl, b4⟩
      have L4 := L3.below b4
      have C4 := C3.same (b4.block b C3.lt)
      have c4 := C4.cell (i := j * 5 + 4) (by omega)
      have f4 := C4.frozen (j * 5 + 4)
      have C5 := C4.set (j * 5 + 4) (.string (mkT (m1 + 3)))
      have HL5 : Hid (LIn w (w4.setCell ⟨b, j * 5 + 4, none⟩ (.string (mkT (m1 + 3)))) lo hi b l P Q G k0 (j + 1) (j + 1)) := hid (by
        refine HCE.out _ ?_ ?_ ?_ ?_ (L4.set HW.out _ _ (by omega))
        · rw [C5.cell (i := j * 5 + 1) (by omega)]; simp
        · rw [C5.cell (i := j * 5 + 2) (by omega)]; simp
        · rw [C5.cell (i := j * 5 + 3) (by omega)]; simp; omega
        · rw [C5.cell (i := j * 5 + 4) (by omega)]; simp)
      obtain ⟨t4, ht4⟩ : ∃ t4, mkT (m1 + 3) = t4 := ⟨_, rfl⟩
      rw [ht4] at HL5
      rw [ht4]
      clear C5 C4 C3 L4 L3 b4 MT ht4 HC HCE
      go_wp2_with fail
      go_roundw
      case rel => exact ⟨j + 1, m1 + 4, hlt, by go_num, by go_num, HNX, HL5⟩
      case measure => simp [intOf]; omega
    · obtain rfl : j = l.length := by omega
      have HE := HM
      clear HM
      go_wp2_with fail
      go_ret
      exact ⟨by rw [HE.out]; rfl, HL.out⟩
end Go.Proofs.YtakmpmhjcngbbaaGreatDoor
