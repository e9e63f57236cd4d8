import Derived.Test.YtbimcammjohaoacDoorRd4
namespace Go.Proofs.YtbimcammjohaoacDoor
open Go.ChangeShapes Go.WideShapes Go.ChangeAt Go.RowKit
set_option linter.unusedVariables false
set_option linter.unusedSimpArgs false

theorem retP {v : Value} {x y : Int} (h : x = y) : Ending.returned (.tuple #[v, .int .i64 x]) = .returned (.tuple #[v, .int .i64 y]) := by rw [h]

set_option maxRecDepth 100000 in
set_option maxHeartbeats 2000000 in
theorem rdGet (a : Option Addr) (n c : Nat) (f : Nat → Int) (w : World) (hnc : n ≤ c) (hn : n ≤ 9223372036854775807) (h : Seg w a n f) (hf : Byt f) :
    Calls Tryd.prog 11 #[.slice a n c] w fun e w' => ∃ v zs x, e = .returned (.tuple #[v, .int .i64 x]) ∧ zs.length ≤ 1000 ∧ -1000 ≤ x ∧ x ≤ 1000 ∧ Bys w' w.heap.size v zs ∧ Below w.heap.size w w' := by
  obtain ⟨i0, hi, hz0, hz1, hz2⟩ := info_parts Tryd.infoByte
  have HO := hid (rdOpen a n c f w hnc hn h hf)
  clear h hf
  go_enter Tryd.func11, Tryd.ntmps11
  go_wp2_with fail
  refine HO.out.mono ?_
  rintro e w1 ⟨rfl, r1, b1⟩
  have HR := hid r1
  have HB := hid b1
  have z1 := r1.lt
  clear r1 b1 HO
  go_wp2_with fail
  refine (rdNext (w.heap.size + 1) w.heap.size _ HR.out).mono ?_
  rintro e w2 ⟨k, hk, rfl, r2, g2⟩
  have HR2 := hid r2
  have z2 := g2.size
  have HB2 := hid (HB.out.grown g2 HB.out.size (fun k hk => by injection hk with hk; omega))
  clear r2 g2 HR HB
  obtain ⟨q, hq⟩ : ∃ q : Nat, (k : Int) % 3 = (q : Int) := ⟨k % 3, by omega⟩
  have hq3 : q < 3 := by omega
  go_wp2_with fail
  try rw [hq]
  clear hq
  refine (rdBytes (w.heap.size + 1) w.heap.size q _ HR2.out (by omega) (by omega)).mono ?_
  rintro e w3 ⟨v3, zs3, rfl, hl3, by3, r3, g3⟩
  have HR3 := hid r3
  have z3 := g3.size
  have HB3 := hid (HB2.out.grown g3 HB2.out.size (fun k hk => by injection hk with hk; omega))
  have HY3 := hid by3
  clear r3 g3 HR2 HB2 by3
  go_wp2_with fail
  refine (rdNumber (w.heap.size + 1) w.heap.size _ HR3.out).mono ?_
  rintro e w4 ⟨V, hV, rfl, r4, g4⟩
  have HR4 := hid r4
  have z4 := g4.size
  have HB4 := hid (HB3.out.grown g4 HB3.out.size (fun k hk => by injection hk with hk; omega))
  have HY4 : Hid (Own w4 w2.heap.size v3 zs3) := World.ownsRow.kept HY3.out.1 g4 (by
    cases e : v3.ownBlock with
    | none => exact .inl rfl
    | some g => exact .inr (by have := (World.ownsRow.lt HY3.out.1 g e).1; intro h1; injection h1 with h1; omega))
  have HN3 := hid HY3.out.2
  clear r4 g4 HR3 HB3 HY3
  go_wp2_with fail
  refine (specUv 9 V _ (Nat.le_refl _) (hid (by omega)) hV).mono ?_
  rintro e w5 ⟨v5, rfl, o5, b5, z5⟩
  have hul := uvF_len 9 V
  have hub := hid (uvF_byte 9 V (by omega))
  obtain ⟨g5, cap5, e5, _, hg5, hcl5, hcm5, hcs5, _⟩ := o5.shape (fun e => by rw [e] at hul; simp at hul)
  subst e5
  have hd : w5.ownsRow w2.heap.size 5 1 v3 zs3.length (zs3.map (Value.int .u8)) := HY4.out.kept b5 (fun k hk => (World.ownsRow.lt HY4.out k hk).2)
  have HR5 := hid (HR4.out.below (b5.mono (by omega)))
  have HB5 := hid (HB4.out.trans (b5.mono HB4.out.size))
  have HT : Hid (∀ k, v3.ownBlock = some k → w2.heap.size ≤ k) := fun k hk => (World.ownsRow.lt hd k hk).1
  have HCS := hid hcs5
  have zz5 := b5.size
  clear o5 b5 HY4 HR4 HB4 hcs5
  rw [hl3] at hd
  generalize hUU : uvF 9 V = U at *
  have hU10 : U.length ≤ 10 := hul.1
  go_wp2_with (at_builtin; refine wpList_append_own _ rfl _ _ 22 rfl w2.heap.size 5 i0 (.int .u8 0) 1 1 Tryd.underlying22 hi hz0 hz1 hz2 rfl (by decide) _ _ _ rfl hd ⟨g5, 0, none⟩ U.length cap5 (U.map (Value.int .u8)) rfl (by simp) HCS.out (by intro u hu; simp at hu; obtain ⟨z, _, rfl⟩ := hu; rfl) ?c3 ?c4 ?c5 ?_)
  case c3 => unfold maxLen; omega
  case c4 => omega
  case c5 => omega
  · intro v6 w6 hown6 hgr6 _
    have R6 : Hid (Bys w6 w2.heap.size v6 (zs3 ++ U)) := ⟨by
      show World.ownsRow _ _ _ _ _ _ _
      rw [List.length_append, List.map_append, hl3]
      exact hown6, fun z hz => by
        rcases List.mem_append.1 hz with h | h
        · exact HN3.out z h
        · exact hub.out z h⟩
    have RB : Hid (Below w2.heap.size w5 w6) := (Below.refl _ _).grown hgr6 (by omega) HT.out
    have HR6 := hid (HR5.out.below (RB.out.mono (by omega)))
    have HB6 := hid (HB5.out.trans (RB.out.mono (by omega)))
    have z6 := RB.out.size
    have hl6 : (zs3 ++ U).length ≤ 12 := by simp; omega
    obtain ⟨Z, hZ⟩ : ∃ Z, zs3 ++ U = Z := ⟨_, rfl⟩
    rw [hZ] at R6 hl6
    clear hown6 hgr6 hd HCS HR5 HB5 HT RB hub hZ HN3
    obtain ⟨y6, m6, c6, ev6, hm6⟩ := row_form1 R6.out.1
    subst ev6
    subst hm6
    have FIN := hid (fun (v' : Value) (w7 : World) (zs' : List Int) (hb : Below w2.heap.size w6 w7) (hy : Bys w7 w2.heap.size v' zs') => (⟨⟨hy.1.weak (by omega), hy.2⟩, HB6.out.trans (hb.mono (by omega))⟩ : Bys w7 w.heap.size v' zs' ∧ Below w.heap.size w w7))
    by_cases h7 : k % 8 = 7
    · have e7 : ((k : Int) % 8 == 7) = true := by simp; omega
      have e6 : ((k : Int) % 8 == 6) = false := by simp; omega
      have e5 : ((k : Int) % 8 == 5) = false := by simp; omega
      have e4 : ((k : Int) % 16 == 4) = false := by simp; omega
      go_wp2_with fail
      refine (rdChange (w.heap.size + 1) w.heap.size _ Z w2.heap.size _ HR6.out R6.out (by omega) (by omega) (by omega)).mono ?_
      rintro e w7 ⟨v7, zs7, rfl, hl7, by7, r7, g7⟩
      have HF := hid (And.intro (show Bys w7 w.heap.size v7 zs7 from ⟨by7.1.weak (by omega), by7.2⟩) (HB6.out.grown g7 HB6.out.size (fun k hk => by injection hk with hk; omega)))
      clear r7 g7 by7 FIN
      go_wp2_with fail
      go_ret2
      exact ⟨_, zs7, _, rfl, by omega, by omega, by omega, HF.out.1, HF.out.2⟩
    by_cases h6 : k % 8 = 6
    · have e7 : ((k : Int) % 8 == 7) = false := by simp; omega
      have e6 : ((k : Int) % 8 == 6) = true := by simp; omega
      have e5 : ((k : Int) % 8 == 5) = false := by simp; omega
      have e4 : ((k : Int) % 16 == 4) = false := by simp; omega
      obtain ⟨d, hd⟩ : ∃ d : Nat, 9 + (k : Int) / 128 = (d : Int) := ⟨9 + k / 128, by omega⟩
      have hd10 : d ≤ 10 := by omega
      have hd9 : 9 ≤ d := by omega
      obtain ⟨x1, hx1⟩ : ∃ x1 : Nat, 128 + (k : Int) / 8 % 2 = (x1 : Int) := ⟨128 + k / 8 % 2, by omega⟩
      have hx18 : x1 < 256 := by omega
      obtain ⟨x2, hx2⟩ : ∃ x2 : Nat, (k : Int) / 16 % 4 = (x2 : Int) := ⟨k / 16 % 4, by omega⟩
      have hx28 : x2 < 256 := by omega
      have hw1 : IntKind.u8.wrap (x1 : Int) = (x1 : Int) := by rw [IntKind.wrap_u8]; omega
      have hw2 : IntKind.u8.wrap (x2 : Int) = (x2 : Int) := by rw [IntKind.wrap_u8]; omega
      go_wp2_with fail
      go_loopw [7, 9] (fun b i wr => ∃ (j : Nat) (ys : List Int) (y c : _), j ≤ d ∧ Hid (ys.length = Z.length + j) ∧ i = .int .i64 (j : Int) ∧ b = .slice y ys.length c ∧ Hid (Bys wr w2.heap.size (.slice y ys.length c) ys) ∧ Hid (Below w2.heap.size w6 wr)) (fun _ i _ => d - (intOf i).toNat)
      case atStart => exact ⟨0, Z, y6, c6, Nat.zero_le _, hid rfl, rfl, rfl, R6, hid (Below.refl _ _)⟩
      case round =>
        obtain ⟨j, ys, y, cc, hj, hyl, rfl, rfl, hby, hbl⟩ := hrel
        have zz := hbl.out.size
        obtain ⟨Ly, hLy⟩ : ∃ Ly, ys.length = Ly := ⟨_, rfl⟩
        have ho : wr.ownsRow w2.heap.size 5 1 (.slice y ys.length cc) ys.length (ys.map (Value.int .u8)) := hby.out.1
        rw [hLy] at ho ⊢
        have HLy := hid hLy
        have hLyb : Ly ≤ 30 := by have := hyl.out; omega
        clear hLy
        by_cases hlt : j < d
        · have hlt' : (j : Int) < (d : Int) := by omega
          go_wp2_with (at_builtin; refine wpList_append_own _ rfl _ _ 22 rfl w2.heap.size 5 i0 (.int .u8 0) 1 1 Tryd.underlying22 hi hz0 hz1 hz2 rfl (by decide) _ _ _ rfl (ho.alloc _) ⟨wr.heap.size, 0, none⟩ 1 1 [.int .u8 (x1 : Int)] rfl rfl ?d1 ?d2 ?d3 ?d4 ?d5 ?_)
          case d1 => exact cell_one_new _ _ _
          case d2 => intro u hu; simp at hu; subst hu; rfl
          case d3 => unfold maxLen; omega
          case d4 => omega
          case d5 => simp; omega
          · intro v' w7 hown' hgr _
            have hl2 : (ys ++ [(x1 : Int)]).length = Ly + 1 := by have := HLy.out; simp; omega
            have R7 : Bys w7 w2.heap.size v' (ys ++ [(x1 : Int)]) := ⟨by
              show World.ownsRow _ _ _ _ _ _ _
              rw [hl2, List.map_append]; exact hown', fun z hz => by
                rcases List.mem_append.1 hz with h | h
                · exact hby.out.2 z h
                · simp at h; subst h; omega⟩
            obtain ⟨y7, m7, c7, ev7, hm7⟩ := row_form1 R7.1
            subst ev7
            subst hm7
            have HR7 := hid R7
            have HB7 : Hid (Below w2.heap.size w6 w7) := (hbl.out.alloc (by omega) _).grown hgr (by simp; omega) (fun k hk => (ho.lt k hk).1)
            clear hown' hgr R7 ho
            go_wp2_with fail
            go_roundw
            case rel => exact ⟨j + 1, ys ++ [(x1 : Int)], y7, c7, hlt, hid (by have := HLy.out; have := hyl.out; omega), by go_num, rfl, HR7, HB7⟩
            case measure => simp [intOf]; omega
        · have hlt' : ¬ (j : Int) < (d : Int) := by omega
          go_wp2_with (at_builtin; refine wpList_append_own _ rfl _ _ 22 rfl w2.heap.size 5 i0 (.int .u8 0) 1 1 Tryd.underlying22 hi hz0 hz1 hz2 rfl (by decide) _ _ _ rfl (ho.alloc _) ⟨wr.heap.size, 0, none⟩ 1 1 [.int .u8 (x2 : Int)] rfl rfl ?m1 ?m2 ?m3 ?m4 ?m5 ?_)
          try case m1 => exact cell_one_new _ _ _
          case m2 => first | rfl | (intro u hu; simp at hu; subst hu; rfl)
          case m3 => first | (unfold maxLen; omega) | omega
          case m4 => omega
          case m5 => first | omega | (simp; omega)
          · intro v' w7 hown' hgr _
            have hl2 : (ys ++ [(x2 : Int)]).length = Ly + 1 := by have := HLy.out; simp; omega
            have R7 : Bys w7 w2.heap.size v' (ys ++ [(x2 : Int)]) := ⟨by
              show World.ownsRow _ _ _ _ _ _ _
              rw [hl2, List.map_append]; exact hown', fun z hz => by
                rcases List.mem_append.1 hz with h | h
                · exact hby.out.2 z h
                · simp at h; subst h; omega⟩
            obtain ⟨y7, m7, c7, ev7, hm7⟩ := row_form1 R7.1
            subst ev7
            have HB7 : Hid (Below w2.heap.size w6 w7) := (hbl.out.alloc (by omega) _).grown hgr (by simp; omega) (fun k hk => (ho.lt k hk).1)
            have HF := hid (FIN.out _ w7 _ HB7.out R7)
            rw [hl2] at hm7
            subst hm7
            clear hown' hgr R7 ho
            go_wp2_with fail
            go_ret2
            exact ⟨_, ys ++ [(x2 : Int)], _, rfl, by omega, by omega, by omega, HF.out.1, HF.out.2⟩
    by_cases h5 : k % 8 = 5
    · have e7 : ((k : Int) % 8 == 7) = false := by simp; omega
      have e6 : ((k : Int) % 8 == 6) = false := by simp; omega
      have e5 : ((k : Int) % 8 == 5) = true := by simp; omega
      have e4 : ((k : Int) % 16 == 4) = false := by simp; omega
      have ho : w6.ownsRow w2.heap.size 5 1 (.slice y6 Z.length c6) Z.length (Z.map (Value.int .u8)) := R6.out.1
      have hn3 : ∀ j u, [Value.int .u8 129, Value.int .u8 128, Value.int .u8 0][j]? = some u → (w6.alloc (.cells #[.int .u8 129, .int .u8 128, .int .u8 0] 5)).cell? ((⟨w6.heap.size, 0, none⟩ : Addr).add j) = some u := by
        intro j u hj
        rcases j with _ | _ | _ | j <;> simp [Addr.add] at hj ⊢ <;> first | exact hj | (simp_all)
      go_wp2_with (at_builtin; refine wpList_append_own _ rfl _ _ 22 rfl w2.heap.size 5 i0 (.int .u8 0) 1 1 Tryd.underlying22 hi hz0 hz1 hz2 rfl (by decide) _ _ _ rfl (ho.alloc _) ⟨w6.heap.size, 0, none⟩ 3 3 [.int .u8 129, .int .u8 128, .int .u8 0] rfl rfl hn3 ?g2 ?g3 ?g4 ?g5 ?_)
      case g2 => intro u hu; simp at hu; rcases hu with rfl | rfl | rfl <;> rfl
      case g3 => unfold maxLen; omega
      case g4 => omega
      case g5 => simp; omega
      · intro v' w7 hown' hgr _
        have hl2 : (Z ++ [129, 128, 0]).length = Z.length + 3 := by simp
        have R7 : Bys w7 w2.heap.size v' (Z ++ [129, 128, 0]) := ⟨by
          show World.ownsRow _ _ _ _ _ _ _
          rw [hl2, List.map_append]; exact hown', fun z hz => by
            rcases List.mem_append.1 hz with h | h
            · exact R6.out.2 z h
            · simp at h; omega⟩
        obtain ⟨y7, m7, c7, ev7, hm7⟩ := row_form1 R7.1
        subst ev7
        have HB7 : Hid (Below w2.heap.size w6 w7) := ((Below.refl _ _).alloc (by omega) _).grown hgr (by simp; omega) (fun k hk => (ho.lt k hk).1)
        have HF := hid (FIN.out _ w7 _ HB7.out R7)
        rw [hl2] at hm7
        subst hm7
        clear hown' hgr R7 ho
        go_wp2_with fail
        go_ret2
        exact ⟨_, Z ++ [129, 128, 0], _, rfl, by omega, by omega, by omega, HF.out.1, HF.out.2⟩
    have HF := hid (FIN.out _ w6 _ (Below.refl _ _) R6.out)
    by_cases h4 : k % 16 = 4
    · have e7 : ((k : Int) % 8 == 7) = false := by simp; omega
      have e6 : ((k : Int) % 8 == 6) = false := by simp; omega
      have e5 : ((k : Int) % 8 == 5) = false := by simp; omega
      have e4 : ((k : Int) % 16 == 4) = true := by simp; omega
      go_wp2_with fail
      go_ret2
      exact ⟨_, Z, _, rfl, by omega, by omega, by omega, HF.out.1, HF.out.2⟩
    · have e7 : ((k : Int) % 8 == 7) = false := by simp; omega
      have e6 : ((k : Int) % 8 == 6) = false := by simp; omega
      have e5 : ((k : Int) % 8 == 5) = false := by simp; omega
      have e4 : ((k : Int) % 16 == 4) = false := by simp; omega
      go_wp2_with fail
      go_ret2
      exact ⟨_, Z, _, rfl, by omega, by omega, by omega, HF.out.1, HF.out.2⟩
end Go.Proofs.YtbimcammjohaoacDoor
