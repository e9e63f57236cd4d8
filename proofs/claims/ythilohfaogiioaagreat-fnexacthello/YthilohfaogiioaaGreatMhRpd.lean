import Derived.Test.YthilohfaogiioaaGreatMg40
namespace Go.Proofs.YthilohfaogiioaaGreat
open Go.ChangeShapes Go.WideShapes Go.ChangeAt Go.RowKit
set_option linter.unusedVariables false
set_option linter.unusedSimpArgs false

def By (zs : List Int) : Prop := ∀ z ∈ zs, 0 ≤ z ∧ z < 256
theorem By.nil : By [] := fun z h => by cases h
theorem By.app {a b : List Int} (h : By a) (k : By b) : By (a ++ b) := fun z hz => by
  rcases List.mem_append.1 hz with h1 | h1
  · exact h z h1
  · exact k z h1
theorem By.flat {α : Type} {f : α → List Int} : ∀ {ys : List α}, (∀ y ∈ ys, By (f y)) → By (ys.flatMap f) := fun {ys} h z hz => by
  obtain ⟨y, hy, hz⟩ := List.mem_flatMap.1 hz
  exact h y hy z hz
theorem By.uv {v : Nat} (h : v ≤ 10000000000) : By (uvF 9 v) := uvF_byte 9 v (by omega)
theorem By.text {s : ByteArray} (h : s.size ≤ 10000000000) : By (textInts s) := By.app (By.uv h) (strInts_byte s)
theorem sx_rng {l : List (Int × Int)} (h : ∀ p ∈ l, 1 ≤ p.1 ∧ p.1 ≤ p.2 ∧ p.2 ≤ 1000000000) (i : Nat) : (0 ≤ sF l i ∧ sF l i ≤ 1000000000) ∧ 0 ≤ sT l i ∧ sT l i ≤ 1000000000 := by
  unfold sF sT
  by_cases hi : i < l.length
  · have e : l.getD i (0, 0) = l[i] := by simp [List.getD, hi]
    have := h _ (List.getElem_mem hi)
    rw [e]; omega
  · have e : l.getD i (0, 0) = (0, 0) := by simp [List.getD, List.getElem?_eq_none (Nat.le_of_not_lt hi)]
    rw [e]; simp
theorem spK_byte {l : List (Int × Int)} (h : ∀ p ∈ l, 1 ≤ p.1 ∧ p.1 ≤ p.2 ∧ p.2 ≤ 1000000000) : ∀ k, By (spK l k)
  | 0 => By.nil
  | k + 1 => by
    have h1 := sx_rng h k
    have h2 : 0 ≤ loK l k := by
      cases k with
      | zero => simp [loK]
      | succ k => have := sx_rng h k; simp only [loK]; omega
    exact By.app (spK_byte h k) (By.app (By.uv (by omega)) (By.uv (by omega)))
theorem putB_byte {R F T : Nat → Int} {n : Nat} (h : ctxB R F T n = true) : By (putB (Lk R F T n)) := by
  have hok := ctxB_iff.1 h
  rw [putB_eq]
  have h1 := KS_len (Lk R F T n) 8
  refine By.app (By.uv (by omega)) (By.flat fun r hr => ?_)
  have h2 := (KS_mem (Lk R F T n) 8 r).1 hr
  have h3 := Lk_len R F T n r
  have h4 := (Lk_srt n hok.1 r).1.2
  have h5 := hok.2
  exact By.app (By.uv (by omega)) (By.app (By.uv (by omega)) (spK_byte h4 _))
theorem tB_byte {R F T : Nat → Int} {n : Nat} {l : List Lf} (h : LvOk R F T n l l.length) (hb : LvB l) : ∀ f p, By (tB l f p)
  | 0, p => by intro z hz; simp [tB] at hz
  | f + 1, p => by
    obtain ⟨k1, k2⟩ := kS_ok p h l.length (Nat.le_refl _)
    have h1 := kS_len l p l.length
    have h2 := hb.len
    rw [tB_eq]
    refine By.app (By.uv (by omega)) (By.flat fun y hy => ?_)
    obtain ⟨j, hj, e⟩ := (k2 y).1 hy
    have t2 := nx_name (h j hj).1 e
    have e2 := (nx_some.1 e).2
    have hk : y.2 = 1 ∨ y.2 = 2 ∨ y.2 = 3 := by
      rw [← e2]
      unfold onWay
      dsimp only
      split
      · exact .inr (.inr rfl)
      · rcases kd_or (gL l j).fl with h | h
        · exact .inl h
        · exact .inr (.inl h)
    unfold kB
    refine By.app (By.text (by omega)) (By.app (fun z hz => by rw [List.mem_singleton] at hz; subst hz; omega) ?_)
    by_cases e3 : y.2 = 3
    · rw [if_pos e3]; exact tB_byte h hb f _
    · rw [if_neg e3]
      unfold mB
      have h3 := dsK_len l p y l.length
      refine By.app (By.uv (by omega)) (By.flat fun x hx => ?_)
      obtain ⟨i, hi, _, rfl⟩ := dsK_mem.1 hx
      have r1 := hb.rep i hi
      have r2 := hb.seq i hi
      have r3 := hb.val i hi
      unfold lfB
      refine By.app (By.uv (by omega)) (By.app (By.uv (by omega)) ?_)
      split
      · exact By.text (by omega)
      · exact By.nil
theorem sxZ_byte (S : Sx) : By (sxZ S).1 := by
  unfold sxZ psZ
  split
  · rename_i h
    have hok : StOk S.R S.F S.T S.n S.l := by
      refine Classical.byContradiction fun hn => ?_
      rw [yes_f hn] at h; cases h
    split
    · exact By.app (putB_byte hok.1) (tB_byte hok.2.2.1 hok.lvB 8 [])
    · exact By.nil
  · exact By.nil
theorem By.byt {zs : List Int} (h : By zs) : Byt (fun i => zs.getD i 0) := fun i => by
  by_cases hi : i < zs.length
  · have e : zs.getD i 0 = zs[i] := by simp [List.getD, hi]
    have := h _ (List.getElem_mem hi)
    dsimp only
    rw [e]; omega
  · have e : zs.getD i 0 = 0 := by simp [List.getD, List.getElem?_eq_none (Nat.le_of_not_lt hi)]
    dsimp only
    rw [e]; omega
theorem dig_rng (f : Nat → Int) : ∀ n, 0 ≤ dig f n ∧ dig f n < 18446744073709551616
  | 0 => by simp [dig]
  | n + 1 => by
    show 0 ≤ digStep _ _ ∧ digStep _ _ < _
    unfold digStep
    rw [IntKind.wrap_u64]
    omega

noncomputable def sxD (S : Sx) : Nat := (dig (fun i => (sxZ S).1.getD i 0) (sxZ S).1.length).toNat
theorem sxD_eq (S : Sx) : dig (fun i => (sxZ S).1.getD i 0) (sxZ S).1.length = (sxD S : Int) := by
  have := dig_rng (fun i => (sxZ S).1.getD i 0) (sxZ S).1.length
  unfold sxD; omega
theorem sxD_lt (S : Sx) : sxD S < 18446744073709551616 := by
  have := dig_rng (fun i => (sxZ S).1.getD i 0) (sxZ S).1.length
  unfold sxD; omega

def eB (V : Nat) : Nat → List Int
  | 0 => []
  | k + 1 => ((V / 256 ^ k % 256 : Nat) : Int) :: eB V k
theorem eB_len (V : Nat) : ∀ k, (eB V k).length = k
  | 0 => rfl
  | k + 1 => by simp [eB, eB_len V k]
theorem eB_get (V : Nat) : ∀ k j, j < k → (eB V k)[j]? = some ((V / 256 ^ (k - 1 - j) % 256 : Nat) : Int)
  | 0, j, h => by omega
  | k + 1, 0, h => by simp [eB]
  | k + 1, j + 1, h => by
    simp only [eB, List.getElem?_cons_succ]
    rw [eB_get V k j (by omega)]
    congr 5
    omega
theorem shr_byte (V k : Nat) : (V : Int) / 2 ^ (8 * k) % 256 = ((V / 256 ^ k % 256 : Nat) : Int) := by
  have e : (2 : Nat) ^ (8 * k) = 256 ^ k := by rw [Nat.pow_mul]
  have e2 : (2 : Int) ^ (8 * k) = ((256 ^ k : Nat) : Int) := by rw [← e]; simp
  rw [e2]
  simp

noncomputable def heZ (id : Int) (S S' : Sx) : Int × List Int × Bool := if rpB id S S' = true then (1, eB (sxD S) 8, true) else (0, [], false)
theorem heZ_len (id : Int) (S S' : Sx) : (heZ id S S').2.1.length ≤ 4000 := by
  unfold heZ
  split
  · simp [eB_len]
  · simp
set_option maxRecDepth 100000 in
set_option maxHeartbeats 1000000 in
theorem specEight (V : Nat) (w : World) (hV : V < 18446744073709551616) :
    Calls Tryz.prog 31 #[.int .u64 (V : Int)] w fun e w' => ∃ v, e = .returned v ∧ Own w' w.heap.size v (eB V 8) ∧ Below w.heap.size w w' := by
  go_enter Tryz.func31, Tryz.ntmps31
  go_wp2_with fail
  go_loopw [0, 3, 4] (fun v o i wr => ∃ (k X : Nat), k ≤ 8 ∧ X < 18446744073709551616 ∧ v = .int .u64 (X : Int) ∧ i = .int .i64 (k : Int) ∧ Hid (X = V / 256 ^ k) ∧ Hid (Bd w wr o (eB V k))) (fun _ _ i _ => 8 - (intOf i).toNat)
  case atStart => exact ⟨0, V, by omega, hV, rfl, rfl, hid (by simp), hid (Bd.made w)⟩
  case round =>
    obtain ⟨k, X, hk, hX, rfl, rfl, HX, HBd⟩ := hrel
    by_cases hlt : k < 8
    · obtain ⟨Y, hY⟩ : ∃ Y, X % 256 = Y := ⟨_, rfl⟩
      obtain ⟨Z, hZ⟩ : ∃ Z, X / 256 = Z := ⟨_, rfl⟩
      have y1 : (X : Int) % 256 = (Y : Int) := by omega
      have y2 : (X : Int) / 256 = (Z : Int) := by omega
      have y5 : Int.tmod (X : Int) 256 = (Y : Int) := by rw [Int.tmod_eq_emod_of_nonneg (by omega)]; exact y1
      have y6 : Int.tdiv (X : Int) 256 = (Z : Int) := by rw [Int.tdiv_eq_ediv_of_nonneg (by omega)]; exact y2
      have y3 : IntKind.u8.wrap (Y : Int) = (Y : Int) := by rw [IntKind.wrap_u8]; omega
      have y4 : IntKind.u64.wrap (Y : Int) = (Y : Int) := wrapU _ (by omega) (by omega)
      have y7 : IntKind.u64.wrap (Z : Int) = (Z : Int) := by rw [IntKind.wrap_u64]; omega
      have HE : Hid (eB V (k + 1) = (Y : Int) :: eB V k) := hid (by simp only [eB]; rw [← HX.out, hY])
      have HZ : Hid (Z = V / 256 ^ (k + 1)) := hid (by rw [← hZ, HX.out, Nat.div_div_eq_div_mul, Nat.pow_succ])
      have hZ2 : Z < 18446744073709551616 := by omega
      have hL : Own (wr.alloc (.cells #[.int .u8 (Y : Int)] 5)) wr.heap.size (.slice (some ⟨wr.heap.size, 0, none⟩) 1 1) [(Y : Int)] := by
        have := World.ownsRow_lit (base := wr.heap.size) (e := 5) (size := 1) wr #[.int .u8 (Y : Int)] 1 (Nat.le_refl _) (by unfold maxLen; omega) rfl
        simpa [Own] using this
      obtain ⟨v2, w2, happ, o2, b2⟩ := HBd.out.front ((Below.refl _ _).alloc (Nat.le_refl _) _) hL (by simp [eB_len]; omega)
      have HB2 : Hid (Bd w w2 v2 (eB V (k + 1))) := hid ⟨b2, by rw [HE.out]; exact o2, own_ne o2 (by simp)⟩
      clear o2 b2 hL hY hZ HBd HX HE
      go_wp2_with (at_builtin; refine wpList_app2 rfl _ _ _ _ rfl happ (by rfl) (by rfl) rfl ?_; clear happ)
      go_roundw
      case rel => exact ⟨k + 1, Z, hlt, hZ2, rfl, by go_num, HZ, HB2⟩
      case measure => simp [intOf]; omega
    · obtain rfl : k = 8 := by omega
      go_wp2_with fail
      go_ret
      exact ⟨_, rfl, HBd.out.o, HBd.out.b⟩
set_option maxRecDepth 100000 in
set_option maxHeartbeats 1000000 in
theorem implEight (V : Nat) (w : World) (hV : V < 18446744073709551616) :
    Calls Tryz.prog 33 #[.int .u64 (V : Int)] w fun e w' => ∃ v, e = .returned v ∧ Own w' w.heap.size v (eB V 8) ∧ Below w.heap.size w w' := by
  obtain ⟨i0, hi, hz0, hz1, hz2⟩ := info_parts Tryz.infoByte
  go_enter Tryz.func33, Tryz.ntmps33
  go_wp2_with (at_make; refine wpList_make_full _ rfl _ _ 43 rfl w.heap.size 5 i0 _ 1 Tryz.underlying43 hi hz0 hz1 _ _ _ _ 8 rfl rfl rfl rfl (by rw [hz2]; omega) (by unfold maxLen; omega) (Nat.le_refl _) ?_; intro w1 hown hgr)
  have hbel : Below w.heap.size w w1 := (Below.refl _ _).grown hgr (Nat.le_refl _) (fun _ h => by cases h)
  have hown' : ∃ xs, w1.ownsRow w.heap.size 5 1 (.slice (some ⟨w.heap.size, 0, none⟩) 8 8) 8 xs := ⟨_, hown⟩
  clear hown hgr
  go_loopw [8] (fun i wr => ∃ k : Nat, k ≤ 8 ∧ i = .int .i64 (k : Int) ∧ Hid (Below w.heap.size w wr) ∧ ∃ xs : List Value, Hid (wr.ownsRow w.heap.size 5 1 (.slice (some ⟨w.heap.size, 0, none⟩) 8 8) 8 xs) ∧ Hid (∀ j, 8 - k ≤ j → j < 8 → xs[j]? = some (.int .u8 ((V / 256 ^ (7 - j) % 256 : Nat) : Int)))) (fun i _ => 8 - (intOf i).toNat)
  case atStart => obtain ⟨xs, ho⟩ := hown'; exact ⟨0, Nat.zero_le _, rfl, hid hbel, xs, hid ho, hid (fun j h1 h2 => by omega)⟩
  case round =>
    clear hown' hbel
    obtain ⟨k, hk, rfl, HB, xs, HO, HXs⟩ := hrel
    by_cases hlt : k < 8
    · obtain ⟨q, hq⟩ : ∃ q, 7 - k = q := ⟨_, rfl⟩
      have q1 : (7 : Int) - (k : Int) = (q : Int) := by omega
      have q2 : q < 8 := by omega
      obtain ⟨u0, hu0⟩ := owns_cell HO.out q (by omega)
      have f0 := HO.out.frozenAt q
      have HR := hid (HO.out.stored q (.int .u8 ((V / 256 ^ k % 256 : Nat) : Int))).1
      have hlen := HO.out.1
      have HX2 : Hid (∀ j, 8 - (k + 1) ≤ j → j < 8 → (xs.set q (.int .u8 ((V / 256 ^ k % 256 : Nat) : Int)))[j]? = some (.int .u8 ((V / 256 ^ (7 - j) % 256 : Nat) : Int))) := hid (fun j h1 h2 => by
        by_cases hjq : j = q
        · have e7 : 7 - j = k := by omega
          rw [e7]; subst hjq; rw [List.getElem?_set_self (by omega)]
        · rw [List.getElem?_set_ne (by omega)]; exact HXs.out j (by omega) h2)
      have HB2 := hid (HB.out.setCell (p := ⟨w.heap.size, q, none⟩) (Nat.le_refl _) (.int .u8 ((V / 256 ^ k % 256 : Nat) : Int)))
      have HSB := hid (shr_byte V k)
      clear hlen hq
      go_wp2_with fail
      rw [HSB.out]
      go_roundw
      case rel => exact ⟨k + 1, hlt, by go_num, HB2, _, HR, HX2⟩
      case measure => simp [intOf]; omega
    · obtain rfl : k = 8 := by omega
      have HOw : Hid (Own wr w.heap.size (.slice (some ⟨w.heap.size, 0, none⟩) 8 8) (eB V 8)) := hid (by
        have hl := HO.out.1
        have e : xs = (eB V 8).map (Value.int .u8) := by
          apply List.ext_getElem?
          intro j
          by_cases hj : j < 8
          · rw [HXs.out j (by omega) hj, List.getElem?_map, eB_get V 8 j hj]; rfl
          · rw [List.getElem?_eq_none (by omega), List.getElem?_eq_none (by simp [eB_len]; omega)]
        have := HO.out
        rw [e] at this
        unfold Own
        rw [eB_len]
        exact this)
      go_wp2_with fail
      go_ret
      exact ⟨_, rfl, HOw.out, HB.out⟩
set_option maxRecDepth 100000 in
set_option maxHeartbeats 1000000 in
theorem l6SumC (a x : Option Addr) (c d : Nat) (S : Sx) (w : World) (hc : S.l.length ≤ c) (hcm : c ≤ 9223372036854775807) (hm : S.Sm) (h : LCap w a S.l) (h' : RSeg w x S.n S.R S.F S.T) :
    Calls Tryz.prog 32 #[.agg #[.slice a S.l.length c, .slice x S.n d]] w fun e w' => e = .returned (.int .u64 (sxD S : Int)) ∧ Below w.heap.size w w' := by
  obtain ⟨W, hW⟩ : ∃ W, w.alloc (.cells #[.slice a S.l.length c, .slice x S.n d] 37) = W := ⟨_, rfl⟩
  have b0 : Below w.heap.size w W := by rw [← hW]; exact (Below.refl _ _).alloc (Nat.le_refl _) _
  have B0 : Bx2 W w.heap.size (.slice a S.l.length c) (.slice x S.n d) := by rw [← hW]; exact Bx2.made _ _ _ _
  have k0 := B0.c0
  have k1 := B0.c1
  have HP := hid (specPutSt a x c d S W hc hcm hm (h.below b0) (h'.below b0))
  have HB0 := hid b0
  clear b0 B0 h h'
  go_enter Tryz.func32, Tryz.ntmps32
  go_wp2_with fail
  try rw [hW]
  clear hW
  refine HP.out.mono ?_
  rintro e w1 ⟨v, zs, k, rfl, hz, ho, b1⟩
  have HB1 := hid (keepS HB0.out b1)
  obtain ⟨va, vc, rfl, hseg⟩ := ho.any
  have hb : By zs := by have := sxZ_byte S; rw [hz] at this; exact this
  have hl : zs.length ≤ 4000 := by have := sxZ_len S; rw [hz] at this; exact this
  have HD : Hid (dig (fun i => zs.getD i 0) zs.length = (sxD S : Int)) := hid (by rw [← sxD_eq, hz])
  have HS := hid (specDigest va zs.length vc (fun i => zs.getD i 0) w1 (by omega) hb.byt hseg)
  rw [HD.out] at HS
  clear b1 ho hz HP k0 k1 hseg hb HD
  go_wp2_with fail
  refine HS.out.mono ?_
  rintro e w2 ⟨rfl, rfl⟩
  obtain ⟨V, hV⟩ : ∃ V, sxD S = V := ⟨_, rfl⟩
  have HV := hid hV
  rw [hV]
  clear hV HS
  go_wp2_with fail
  go_ret
  exact ⟨by rw [HV.out]; rfl, HB1.out⟩
set_option maxRecDepth 100000 in
set_option maxHeartbeats 2000000 in
theorem specHello (id : Int) (a x a' x' : Option Addr) (c d c' d' : Nat) (S S' : Sx) (w : World) (hc : S.l.length ≤ c) (hcm : c ≤ 9223372036854775807) (hc' : S'.l.length ≤ c') (hcm' : c' ≤ 9223372036854775807) (hm : S.Sm) (hm' : S'.Sm) (h : LCap w a S.l) (k : RSeg w x S.n S.R S.F S.T) (h' : LCap w a' S'.l) (k' : RSeg w x' S'.n S'.R S'.F S'.T) :
    Calls Tryz.prog 17 #[.agg #[.int .i64 id, .slice a S.l.length c, .slice x S.n d, .slice a' S'.l.length c', .slice x' S'.n d']] w fun e w' => ∃ K v zs B, e = .returned (.tuple #[.agg #[.int .i64 K, v], .bool B]) ∧ heZ id S S' = (K, zs, B) ∧ Own w' w.heap.size v zs ∧ Below w.heap.size w w' := by
  obtain ⟨W, hW⟩ : ∃ W, (w.alloc (.cells #[.int .i64 id, .slice a S.l.length c, .slice x S.n d, .slice a' S'.l.length c', .slice x' S'.n d'] 39)).alloc (.cells #[.int .i64 0, .slice none 0 0] 45) = W := ⟨_, rfl⟩
  have b0 : Below w.heap.size w W := by rw [← hW]; exact below2 _ _ _
  have F0 : Bx2 W (w.heap.size + 1) (.int .i64 0) (.slice none 0 0) := by
    rw [← hW]
    have := Bx2.made (w.alloc (.cells #[.int .i64 id, .slice a S.l.length c, .slice x S.n d, .slice a' S'.l.length c', .slice x' S'.n d'] 39)) (.int .i64 0) (.slice none 0 0) 45
    simpa using this
  have B0 : Bx5 W w.heap.size (.int .i64 id) (.slice a S.l.length c) (.slice x S.n d) (.slice a' S'.l.length c') (.slice x' S'.n d') := by rw [← hW]; exact (Bx5.new _ _ _ _ _ _ _).up _
  have HO := hid (specReplicaOk id a x a' x' c d c' d' S S' W hc hcm hc' hcm' hm hm' (h.below b0) (k.below b0) (h'.below b0) (k'.below b0))
  have HP : Hid (∀ w1, Below W.heap.size W w1 → Calls Tryz.prog 32 #[.agg #[.slice a S.l.length c, .slice x S.n d]] w1 fun e w' => e = .returned (.int .u64 (sxD S : Int)) ∧ Below w1.heap.size w1 w') := hid (fun w1 hb => l6SumC a x c d S w1 hc hcm hm (h.below (keepS b0 hb)) (k.below (keepS b0 hb)))
  have HW1 : Hid (rpB id S S' = true → heZ id S S' = (1, eB (sxD S) 8, true)) := hid (fun h => if_pos h)
  have HW2 : Hid (rpB id S S' = false → heZ id S S' = (0, [], false)) := hid (fun h => if_neg (by rw [h]; simp))
  have HV := hid (sxD_lt S)
  obtain ⟨V, hV⟩ : ∃ V, sxD S = V := ⟨_, rfl⟩
  rw [hV] at HP HW1 HV
  have HB0 := hid b0
  have HX := hid B0
  have HF := hid F0
  have q0 := B0.c0
  have q1 := B0.c1
  have q2 := B0.c2
  have q3 := B0.c3
  have q4 := B0.c4
  clear h h' k k' b0 B0 F0 hV
  cases hr : rpB id S S' with
  | true =>
    rw [hr] at HO
    have HWE := hid (HW1.out hr)
    clear hr HW1 HW2
    go_enter Tryz.func17, Tryz.ntmps17
    go_wp2_with fail
    try rw [hW]
    clear hW
    refine HO.out.mono ?_
    rintro e w1 ⟨rfl, b1⟩
    have X1 := HX.out.below b1 HX.out.lt
    have p1 := X1.c1
    have p2 := X1.c2
    have HB1 := hid (keepS HB0.out b1)
    have HP1 := hid (HP.out w1 b1)
    have HF1 := hid (HF.out.below b1 HF.out.lt)
    clear b1 X1 HO HX q0 q1 q2 q3 q4 HP
    go_wp2_with fail
    refine HP1.out.mono ?_
    rintro e w2 ⟨rfl, b2⟩
    have HB2 := hid (keepS HB1.out b2)
    have HF2 := hid (HF1.out.below b2 HF1.out.lt)
    have HEi := hid (specEight V w2 HV.out)
    clear b2 HP1 p1 p2
    go_wp2_with fail
    refine HEi.out.mono ?_
    rintro e w3 ⟨v, rfl, ho, b3⟩
    have HO2 := hid ho
    have hz1 : w.heap.size + 1 < w2.heap.size := HF2.out.lt
    have HB3 := hid (keepS HB2.out b3)
    have F3 := HF2.out.below b3 HF2.out.lt
    have f0 := F3.c0
    have f1 := F3.c1
    have ff := F3.f
    obtain ⟨va, vc, hvv, _⟩ := ho.any
    rw [eB_len] at hvv
    subst hvv
    clear ho b3 F3 HEi
    go_wp2_with fail
    refine bodyPost_ret (v := .tuple #[.agg #[.int .i64 1, .slice va 8 vc], .bool true]) (by simp [results, Tryz.results17, go_sem, f0, f1]) rfl ⟨1, _, eB V 8, true, rfl, HWE.out, ?_, ?_⟩
    · exact ((HO2.out.cellset _ _ hz1).cellset _ _ hz1).weak HB2.out.size
    · exact (HB3.out.setCell (by simp) _).setCell (by simp) _
  | false =>
    rw [hr] at HO
    have HWE := hid (HW2.out hr)
    clear hr HW1 HW2
    go_enter Tryz.func17, Tryz.ntmps17
    go_wp2_with fail
    try rw [hW]
    clear hW
    refine HO.out.mono ?_
    rintro e w1 ⟨rfl, b1⟩
    have HB1 := hid (keepS HB0.out b1)
    have F1 := HF.out.below b1 HF.out.lt
    have f0 := F1.c0
    have f1 := F1.c1
    have ff := F1.f
    clear b1 HO HX q0 q1 q2 q3 q4 HP F1
    go_wp2_with fail
    refine bodyPost_ret (v := .tuple #[.agg #[.int .i64 0, .slice none 0 0], .bool false]) (by simp [results, Tryz.results17, go_sem, f0, f1]) rfl ⟨0, _, [], false, rfl, HWE.out, World.ownsRow_nil _ _ _ _, ?_⟩
    first | exact HB1.out | exact (HB1.out.setCell (by simp) _).setCell (by simp) _
set_option maxRecDepth 100000 in
set_option maxHeartbeats 2000000 in
theorem implHello (id : Int) (a x a' x' : Option Addr) (c d c' d' : Nat) (S S' : Sx) (w : World) (hi : ∀ i, LfI (gL S.l i)) (hi' : ∀ i, LfI (gL S'.l i)) (hm : S.Sm) (hm' : S'.Sm) (h : SAt w a x S) (h' : SAt w a' x' S') :
    Calls Tryz.prog 18 #[.agg #[.int .i64 id, .slice a S.l.length c, .slice x S.n d, .slice a' S'.l.length c', .slice x' S'.n d']] w fun e w' => ∃ K v zs B, e = .returned (.tuple #[.agg #[.int .i64 K, v], .bool B]) ∧ heZ id S S' = (K, zs, B) ∧ Own w' w.heap.size v zs ∧ Below w.heap.size w w' := by
  obtain ⟨W, hW⟩ : ∃ W, (w.alloc (.cells #[.int .i64 id, .slice a S.l.length c, .slice x S.n d, .slice a' S'.l.length c', .slice x' S'.n d'] 39)).alloc (.cells #[.int .i64 0, .slice none 0 0] 45) = W := ⟨_, rfl⟩
  have b0 : Below w.heap.size w W := by rw [← hW]; exact below2 _ _ _
  have F0 : Bx2 W (w.heap.size + 1) (.int .i64 0) (.slice none 0 0) := by
    rw [← hW]
    have := Bx2.made (w.alloc (.cells #[.int .i64 id, .slice a S.l.length c, .slice x S.n d, .slice a' S'.l.length c', .slice x' S'.n d'] 39)) (.int .i64 0) (.slice none 0 0) 45
    simpa using this
  have B0 : Bx5 W w.heap.size (.int .i64 id) (.slice a S.l.length c) (.slice x S.n d) (.slice a' S'.l.length c') (.slice x' S'.n d') := by rw [← hW]; exact (Bx5.new _ _ _ _ _ _ _).up _
  have HO := hid (implWhole id a x a' x' c d c' d' S S' W hi hi' hm hm' (h.below b0) (h'.below b0))
  have HW1 : Hid (rpB id S S' = true → heZ id S S' = (1, eB (sxD S) 8, true) ∧ whZ id S S' = (2, (sxZ S).1, true)) := hid (fun h => ⟨if_pos h, if_pos h⟩)
  have HW2 : Hid (rpB id S S' = false → heZ id S S' = (0, [], false) ∧ whZ id S S' = (0, [], false)) := hid (fun h => ⟨if_neg (by rw [h]; simp), if_neg (by rw [h]; simp)⟩)
  have HV := hid (sxD_lt S)
  have HDE := hid (sxD_eq S)
  have HBY := hid (sxZ_byte S)
  have HLN := hid (sxZ_len S)
  obtain ⟨V, hV⟩ : ∃ V, sxD S = V := ⟨_, rfl⟩
  rw [hV] at HW1 HV HDE
  have HB0 := hid b0
  have HX := hid B0
  have HF := hid F0
  have q0 := B0.c0
  have q1 := B0.c1
  have q2 := B0.c2
  have q3 := B0.c3
  have q4 := B0.c4
  clear h h' b0 B0 F0 hV
  cases hr : rpB id S S' with
  | true =>
    have HWE := hid (HW1.out hr)
    clear hr HW1 HW2
    go_enter Tryz.func18, Tryz.ntmps18
    go_wp2_with fail
    try rw [hW]
    clear hW
    refine HO.out.mono ?_
    rintro e w1 ⟨K, v, zs, B, rfl, hz, ho, b1⟩
    obtain ⟨rfl, hzz, rfl⟩ : K = 2 ∧ (sxZ S).1 = zs ∧ B = true := by rw [HWE.out.2] at hz; injection hz with e1 e2; injection e2 with e2 e3; exact ⟨e1.symm, e2, e3.symm⟩
    rw [hzz] at HDE HBY HLN
    obtain ⟨va, vc, rfl, hseg⟩ := ho.any
    obtain ⟨w1b, hw1b⟩ : ∃ w1b, w1.alloc (.cells #[.int .i64 2, .slice va zs.length vc] 45) = w1b := ⟨_, rfl⟩
    have b1b : Below w1.heap.size w1 w1b := by rw [← hw1b]; exact (Below.refl _ _).alloc (Nat.le_refl _) _
    have FW : Bx2 w1b w1.heap.size (.int .i64 2) (.slice va zs.length vc) := by rw [← hw1b]; exact Bx2.made _ _ _ _
    have HB1 := hid (keepS HB0.out (keepS b1 b1b))
    have HF1 := hid (HF.out.below (keepS b1 b1b) HF.out.lt)
    have HS := hid (implDigest va zs.length vc (fun i => zs.getD i 0) w1b (by have := HLN.out; omega) HBY.out.byt (hseg.below b1b))
    rw [HDE.out] at HS
    have m0 := FW.c0
    have m1 := FW.c1
    clear b1 b1b ho hz hzz hseg HO HX q0 q1 q2 q3 q4 FW
    go_wp2_with fail
    try rw [hw1b]
    clear hw1b m0 m1
    refine HS.out.mono ?_
    rintro e w2 ⟨rfl, rfl⟩
    have HEi := hid (implEight V w2 HV.out)
    clear HS
    go_wp2_with fail
    refine HEi.out.mono ?_
    rintro e w3 ⟨v, rfl, ho, b3⟩
    have HO2 := hid ho
    have hz1 : w.heap.size + 1 < w2.heap.size := HF1.out.lt
    have HB3 := hid (keepS HB1.out b3)
    have F3 := HF1.out.below b3 HF1.out.lt
    have f0 := F3.c0
    have f1 := F3.c1
    have ff := F3.f
    obtain ⟨va', vc', hvv, _⟩ := ho.any
    rw [eB_len] at hvv
    subst hvv
    clear ho b3 F3 HEi
    go_wp2_with fail
    refine bodyPost_ret (v := .tuple #[.agg #[.int .i64 1, .slice va' 8 vc'], .bool true]) (by simp [results, Tryz.results18, go_sem, f0, f1]) rfl ⟨1, _, eB V 8, true, rfl, HWE.out.1, ?_, ?_⟩
    · exact ((HO2.out.cellset _ _ hz1).cellset _ _ hz1).weak HB1.out.size
    · exact (HB3.out.setCell (by simp) _).setCell (by simp) _
  | false =>
    have HWE := hid (HW2.out hr)
    clear hr HW1 HW2
    go_enter Tryz.func18, Tryz.ntmps18
    go_wp2_with fail
    try rw [hW]
    clear hW
    refine HO.out.mono ?_
    rintro e w1 ⟨K, v, zs, B, rfl, hz, ho, b1⟩
    obtain ⟨rfl, rfl, rfl⟩ : K = 0 ∧ zs = [] ∧ B = false := by rw [HWE.out.2] at hz; injection hz with e1 e2; injection e2 with e2 e3; exact ⟨e1.symm, e2.symm, e3.symm⟩
    obtain ⟨va, vc, rfl, _⟩ := ho.any
    have HB1 := hid (keepS HB0.out b1)
    have HF1 := hid (HF.out.below b1 HF.out.lt)
    obtain ⟨w1b, hw1b⟩ : ∃ w1b, w1.alloc (.cells #[.int .i64 0, .slice va 0 vc] 45) = w1b := ⟨_, rfl⟩
    have b1b : Below w1.heap.size w1 w1b := by rw [← hw1b]; exact (Below.refl _ _).alloc (Nat.le_refl _) _
    have F1 := HF1.out.below b1b HF1.out.lt
    have HB2 := hid (keepS HB1.out b1b)
    have f0 := F1.c0
    have f1 := F1.c1
    have ff := F1.f
    clear b1 b1b ho hz HO HX q0 q1 q2 q3 q4 F1
    go_wp2_with fail
    try rw [hw1b]
    refine bodyPost_ret (v := .tuple #[.agg #[.int .i64 0, .slice none 0 0], .bool false]) (by simp [results, Tryz.results18, go_sem, f0, f1]) rfl ⟨0, _, [], false, rfl, HWE.out.1, World.ownsRow_nil _ _ _ _, ?_⟩
    first | exact HB2.out | exact (HB2.out.setCell (by simp) _).setCell (by simp) _
end Go.Proofs.YthilohfaogiioaaGreat
