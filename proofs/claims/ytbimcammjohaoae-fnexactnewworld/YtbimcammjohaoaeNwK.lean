import Derived.Test.YtbimcammjohaoaeNwJ
namespace Go.Proofs.Ytbimcammjohaoae.fnExactNewWorld
open Go.ChangeShapes Go.WideShapes Go.ChangeAt Go.RowKit
set_option linter.unusedVariables false
set_option linter.unusedSimpArgs false

theorem lit0 (w : World) (B : Nat) (e : TypeId) (size : Nat) (hB : B ≤ w.heap.size) : (w.alloc (.cells #[] e)).ownsRow B e size (.slice (some ⟨w.heap.size, 0, none⟩) 0 0) 0 [] := by
  have := World.ownsRow_lit (base := B) (e := e) (size := size) w #[] 0 hB (by unfold maxLen; omega) (by simp)
  simpa using this
theorem startS (w : World) (n : Nat) : NwS w ((((w.alloc (.cells #[.slice none 0 0, .slice none 0 0] 25)).alloc (.cells #[] 60)).alloc (.cells #[] 68)).alloc (.cells #[.slice (some ⟨w.heap.size + 1, 0, none⟩) 0 0, .slice (some ⟨w.heap.size + 1 + 1, 0, none⟩) 0 0] 25)) w.heap.size (w.heap.size + 1 + 1 + 1) 0 (plO n 0) (.slice (some ⟨w.heap.size + 1, 0, none⟩) 0 0) (.slice (some ⟨w.heap.size + 1 + 1, 0, none⟩) 0 0) := by
  obtain ⟨A, hA⟩ : ∃ A, w.alloc (.cells #[.slice none 0 0, .slice none 0 0] 25) = A := ⟨_, rfl⟩
  have zA : A.heap.size = w.heap.size + 1 := by rw [← hA]; simp
  have xA : Bx2 A w.heap.size (.slice none 0 0) (.slice none 0 0) := by rw [← hA]; exact ⟨by simp, by simp, by simp, by simp, by simp⟩
  have bA : Below w.heap.size w A := by rw [← hA]; exact (Below.refl _ _).alloc (Nat.le_refl _) _
  rw [hA]
  have lA := lit0 A w.heap.size 60 5 (by omega)
  rw [zA] at lA
  obtain ⟨B, hB⟩ : ∃ B, A.alloc (.cells #[] 60) = B := ⟨_, rfl⟩
  have zB : B.heap.size = w.heap.size + 1 + 1 := by rw [← hB]; simp [zA]
  have gB : A.grownBy B none := by rw [← hB]; exact World.grownBy_alloc _ _ _
  have bB : Below w.heap.size w B := by rw [← hB]; exact bA.alloc (by omega) _
  rw [hB] at lA
  rw [hB]
  have lB := lit0 B w.heap.size 68 6 (by omega)
  rw [zB] at lB
  obtain ⟨C, hC⟩ : ∃ C, B.alloc (.cells #[] 68) = C := ⟨_, rfl⟩
  have zC : C.heap.size = w.heap.size + 1 + 1 + 1 := by rw [← hC]; simp [zB]
  have gC : B.grownBy C none := by rw [← hC]; exact World.grownBy_alloc _ _ _
  have bC : Below w.heap.size w C := by rw [← hC]; exact bB.alloc (by omega) _
  rw [hC] at lB
  rw [hC]
  obtain ⟨D, hD⟩ : ∃ D, C.alloc (.cells #[.slice (some ⟨w.heap.size + 1, 0, none⟩) 0 0, .slice (some ⟨w.heap.size + 1 + 1, 0, none⟩) 0 0] 25) = D := ⟨_, rfl⟩
  have gD : C.grownBy D none := by rw [← hD]; exact World.grownBy_alloc _ _ _
  have bD : Below w.heap.size w D := by rw [← hD]; exact bC.alloc (by omega) _
  have xD : Bx2 D (w.heap.size + 1 + 1 + 1) (.slice (some ⟨w.heap.size + 1, 0, none⟩) 0 0) (.slice (some ⟨w.heap.size + 1 + 1, 0, none⟩) 0 0) := by
    rw [← hD, ← zC]; exact ⟨by simp, by simp, by simp, by simp, by simp⟩
  rw [hD]
  refine ⟨bD, ((xA.gr gB (by simp)).gr gC (by simp)).gr gD (by simp), xD, ⟨[], (lA.kept gC (by simp [Value.ownBlock])).kept gD (by simp [Value.ownBlock]), fun i hi => by omega⟩, ⟨[], lB.kept gD (by simp [Value.ownBlock]), fun i hi => by simp [plO_zero] at hi⟩, fun k hk e => ?_, ?_, ?_, ?_, ?_, ⟨by omega, by omega, by omega⟩⟩
  · simp [Value.ownBlock] at hk e; omega
  all_goals (intro e; simp [Value.ownBlock] at e; try omega)
theorem repC (a : Nat) (h : a < 8) (w : World) : Calls Try.prog 27 #[.int .i64 (a : Int)] w fun e w' => (∃ p1 p2 p3 p4 c1 c2 c3 c4, e = .returned (.tuple #[.agg #[.int .i64 (a : Int), .slice p1 0 c1, .slice p2 0 c2, .slice p3 0 c3, .slice p4 0 c4], .bool true])) ∧ Below w.heap.size w w' := by
  have h1 : okR (a : Int) = true := by simp [okR]; omega
  have h2 : idR (a : Int) = (a : Int) := by simp [idR, h1]
  have := specC (a : Int) w (by omega) (by omega)
  rw [h1, h2] at this
  refine this.mono ?_
  rintro e w' ⟨⟨v, rfl, p1, p2, p3, p4, c1, c2, c3, c4, rfl⟩, b⟩
  exact ⟨⟨p1, p2, p3, p4, c1, c2, c3, c4, rfl⟩, b⟩

set_option maxRecDepth 100000 in
set_option maxHeartbeats 2000000 in
theorem specW (n : Nat) (w : World) (h1 : 1 ≤ n) (h8 : n ≤ 8) :
    Calls Try.prog 6 #[.int .i64 (n : Int)] w fun e w' => ∃ v, e = .returned (.tuple #[v, .bool true]) ∧ NwA w w' n v := by
  have d1 : decide ((n : Int) < 1) = false := by simp; omega
  have d2 : decide ((8 : Int) < (n : Int)) = false := by simp; omega
  obtain ⟨W, hW⟩ : ∃ W, (((w.alloc (.cells #[.slice none 0 0, .slice none 0 0] 25)).alloc (.cells #[] 60)).alloc (.cells #[] 68)).alloc (.cells #[.slice (some ⟨w.heap.size + 1, 0, none⟩) 0 0, .slice (some ⟨w.heap.size + 1 + 1, 0, none⟩) 0 0] 25) = W := ⟨_, rfl⟩
  have HI0 : Hid (NwS w W w.heap.size (w.heap.size + 1 + 1 + 1) 0 (plO n 0) (.slice (some ⟨w.heap.size + 1, 0, none⟩) 0 0) (.slice (some ⟨w.heap.size + 1 + 1, 0, none⟩) 0 0)) := hid (by rw [← hW]; exact startS w n)
  obtain ⟨iR, hiR, rz0, rz1, rz2⟩ := info_parts infoR
  obtain ⟨iP, hiP, pz0, pz1, pz2⟩ := info_parts infoP
  go_enter Try.func6, Try.ntmps6
  go_wp2_with fail
  try rw [hW]
  clear hW
  go_loopw [5] (fun iv wr => ∃ (a : Nat) (rv pv : Value), a ≤ n ∧ iv = .int .i64 (a : Int) ∧ Hid (NwS w wr w.heap.size (w.heap.size + 1 + 1 + 1) a (plO n a) rv pv)) (fun iv _ => n - (intOf iv).toNat)
  case atStart => exact ⟨0, _, _, Nat.zero_le _, rfl, HI0⟩
  case round =>
    clear HI0
    obtain ⟨a, rv, pv, ha, rfl, hI⟩ := hrel
    by_cases hlt : a < n
    · have HI1 := hid hI.out
      have dlt : decide ((a : Int) < (n : Int)) = true := by simp; omega
      have HC := hid (repC a (by omega) wr)
      clear hI
      go_wp2_with fail
      refine HC.out.mono ?_
      rintro e w1 ⟨⟨p1, p2, p3, p4, c1, c2, c3, c4, rfl⟩, b1⟩
      obtain ⟨W2, hW2⟩ : ∃ W2, w1.alloc (.cells #[.int .i64 (a : Int), .slice p1 0 c1, .slice p2 0 c2, .slice p3 0 c3, .slice p4 0 c4] 60) = W2 := ⟨_, rfl⟩
      have bb : Below w1.heap.size w1 W2 := by rw [← hW2]; exact (Below.refl _ _).alloc (Nat.le_refl _) _
      have hI := (HI1.out.below b1).below bb
      have y0 : W2.cell? ⟨w1.heap.size, 0, none⟩ = some (.int .i64 (a : Int)) := by rw [← hW2]; simp
      have y1 : W2.cell? ⟨w1.heap.size, 1, none⟩ = some (.slice p1 0 c1) := by rw [← hW2]; simp
      have y2 : W2.cell? ⟨w1.heap.size, 2, none⟩ = some (.slice p2 0 c2) := by rw [← hW2]; simp
      have y3 : W2.cell? ⟨w1.heap.size, 3, none⟩ = some (.slice p3 0 c3) := by rw [← hW2]; simp
      have y4 : W2.cell? ⟨w1.heap.size, 4, none⟩ = some (.slice p4 0 c4) := by rw [← hW2]; simp
      obtain ⟨xs, r1, rx⟩ := hI.rr
      obtain ⟨ra, rc, rfl⟩ := row_form r1
      have HS := hid hI.sz
      have k0 := hI.x4.c0
      have HR := hid (World.ownsRow.alloc r1 (.cells #[.int .i64 (a : Int), .slice p1 0 c1, .slice p2 0 c2, .slice p3 0 c3, .slice p4 0 c4] 60))
      have HNW := hid (cell5A W2 (.int .i64 (a : Int)) (.slice p1 0 c1) (.slice p2 0 c2) (.slice p3 0 c3) (.slice p4 0 c4) 60)
      have HX := hid (rx.snoc r1.1 p1 p2 p3 p4 c1 c2 c3 c4)
      have HI := hid hI
      clear hI r1 rx bb b1 HC HI1
      go_wp2_with (at_builtin; refine wpList_app_at rfl _ _ 22 rfl w.heap.size 60 iR _ 5 104 Try.underlying22 hiR rz0 rz1 rz2 rfl (by decide) _ _ _ rfl HR.out ⟨W2.heap.size, 0, none⟩ 1 1 [.int .i64 (a : Int), .slice p1 0 c1, .slice p2 0 c2, .slice p3 0 c3, .slice p4 0 c4] ?g0 rfl ?g1 ?g2 ?g3 ?g4 ?g5 ?_)
      case g0 => rfl
      case g1 => exact HNW.out
      case g2 => intro u hu; simp at hu; rcases hu with rfl | rfl | rfl | rfl | rfl <;> rfl
      case g3 => unfold maxLen; omega
      case g4 => omega
      case g5 => have := HS.out; simp; omega
      intro v7 w7 hown7 hgr7 hloc7
      have gg : W2.grownBy w7 (Value.slice ra a rc).ownBlock := (World.grownBy_alloc W2 _ _).trans hgr7
      have nx : NwS w (w7.setCell ⟨w.heap.size + 1 + 1 + 1, 0, none⟩ v7) w.heap.size (w.heap.size + 1 + 1 + 1) (a + 1) (plO n a) v7 pv := HI.out.putR HX.out hown7 gg (hloc7.imp id (fun q => ⟨_, q, by simp⟩))
      obtain ⟨ra7, rc7, rfl⟩ := row_form hown7
      have x7 := HI.out.x4.gr gg HI.out.r4
      have c7 := x7.c0
      have z7 := x7.f0
      obtain ⟨W8, hW8⟩ : ∃ W8, w7.setCell ⟨w.heap.size + 1 + 1 + 1, 0, none⟩ (.slice ra7 (a + 1) rc7) = W8 := ⟨_, rfl⟩
      rw [hW8] at nx
      have HN : Hid (NwS w W8 w.heap.size (w.heap.size + 1 + 1 + 1) (a + 1) (plO n a ++ plI a 0) (.slice ra7 (a + 1) rc7) pv) := hid (by rw [plI_zero, List.append_nil]; exact nx)
      clear hown7 hgr7 hloc7 gg nx x7 HI HX HR HNW k0 hW2 y0 y1 y2 y3 y4
      go_wp2_with fail
      try rw [hW8]
      clear hW8 c7 z7
      go_loopw [8] (fun iv wq => ∃ (b : Nat) (pv : Value), b ≤ n ∧ iv = .int .i64 (b : Int) ∧ Hid (NwS w wq w.heap.size (w.heap.size + 1 + 1 + 1) (a + 1) (plO n a ++ plI a b) (.slice ra7 (a + 1) rc7) pv)) (fun iv _ => n - (intOf iv).toNat)
      case atStart => exact ⟨0, _, Nat.zero_le _, rfl, HN⟩
      case round =>
        clear HN
        obtain ⟨b, pv, hb, rfl, hI⟩ := hrel
        by_cases hlb : b < n
        · have dlb : decide ((b : Int) < (n : Int)) = true := by simp; omega
          by_cases hab : b = a
          · subst hab
            have dN : ((b : Int) != (b : Int)) = false := by simp
            have HN : Hid (NwS w wr w.heap.size (w.heap.size + 1 + 1 + 1) (b + 1) (plO n b ++ plI b (b + 1)) (.slice ra7 (b + 1) rc7) pv) := by rw [plI_same]; exact hI
            clear hI
            go_wp2_with fail
            go_roundw
            case rel => exact ⟨b + 1, pv, hlb, by go_num, HN⟩
            case measure => simp [intOf]; omega
          · have dN : ((a : Int) != (b : Int)) = true := by simp; omega
            have hLL : (plO n a ++ plI a b).length ≤ 72 := by
              have q1 := plO_len n a
              have q2 := plI_len a b
              have q3 : a * n ≤ 8 * 8 := Nat.mul_le_mul (by omega) h8
              rw [List.length_append]; omega
            have hap : plO n a ++ plI a (b + 1) = plO n a ++ plI a b ++ [(a, b)] := by rw [plI_succ a b hab, List.append_assoc]
            obtain ⟨L, hL⟩ : ∃ L, plO n a ++ plI a b = L := ⟨_, rfl⟩
            rw [hL] at hI hLL hap
            have HAP := hid hap
            have HL := hid hLL
            clear hL hap hLL
            have kk := hI.out.x4.c1
            obtain ⟨W4, hW4⟩ : ∃ W4, wr.alloc (.cells #[] 64) = W4 := ⟨_, rfl⟩
            have bb : Below wr.heap.size wr W4 := by rw [← hW4]; exact (Below.refl _ _).alloc (Nat.le_refl _) _
            have hI4 := hI.out.below bb
            obtain ⟨ys, p1, px⟩ := hI4.pp
            obtain ⟨pa, pc, rfl⟩ := row_form p1
            have HS := hid hI4.sz
            have k1 := hI4.x4.c1
            have HR := hid (World.ownsRow.alloc p1 (.cells #[.int .i64 (a : Int), .int .i64 (b : Int), .slice (some ⟨wr.heap.size, 0, none⟩) 0 0, .slice none 0 0, .int .i64 0, .int .i64 0] 68))
            have HNW := hid (cell6A W4 (.int .i64 (a : Int)) (.int .i64 (b : Int)) (.slice (some ⟨wr.heap.size, 0, none⟩) 0 0) (.slice none 0 0) (.int .i64 0) (.int .i64 0) 68)
            have HX := hid (px.snoc p1.1 a b (some ⟨wr.heap.size, 0, none⟩) none 0 0)
            have HI := hid hI4
            clear hI hI4 p1 px bb
            go_wp2_with (at_builtin; refine wpList_app_at rfl _ _ 23 rfl w.heap.size 68 iP _ 6 80 Try.underlying23 hiP pz0 pz1 pz2 rfl (by decide) _ _ _ rfl HR.out ⟨W4.heap.size, 0, none⟩ 1 1 [.int .i64 (a : Int), .int .i64 (b : Int), .slice (some ⟨wr.heap.size, 0, none⟩) 0 0, .slice none 0 0, .int .i64 0, .int .i64 0] ?n0 rfl ?n1 ?n2 ?n3 ?n4 ?n5 ?_)
            case n0 => rfl
            case n1 => exact HNW.out
            case n2 => intro u hu; simp at hu; rcases hu with rfl | rfl | rfl | rfl | rfl | rfl <;> rfl
            case n3 => have := HL.out; unfold maxLen; omega
            case n4 => have := HL.out; omega
            case n5 => have := HS.out; simp; omega
            intro v9 w9 hown9 hgr9 hloc9
            have gg : W4.grownBy w9 (Value.slice pa L.length pc).ownBlock := (World.grownBy_alloc W4 _ _).trans hgr9
            have nx : NwS w (w9.setCell ⟨w.heap.size + 1 + 1 + 1, 1, none⟩ v9) w.heap.size (w.heap.size + 1 + 1 + 1) (a + 1) (L ++ [(a, b)]) (.slice ra7 (a + 1) rc7) v9 := HI.out.putP (by rw [List.length_append]; exact HX.out) (by rw [List.length_append]; exact hown9) gg (hloc9.imp id (fun q => ⟨_, q, by simp⟩))
            obtain ⟨pa9, pc9, rfl⟩ := row_form hown9
            have x9 := HI.out.x4.gr gg HI.out.p4
            have c9 := x9.c1
            have z9 := x9.f1
            have HN := hid nx
            rw [← HAP.out] at HN
            clear hown9 hgr9 hloc9 gg nx x9 HI HX HR HNW k1 kk hW4
            go_wp2_with fail
            go_roundw
            case rel => exact ⟨b + 1, _, hlb, by go_num, HN⟩
            case measure => simp [intOf]; omega
        · obtain rfl : b = n := by omega
          have dlb : decide ((b : Int) < (b : Int)) = false := by simp
          have HN := hid hI.out
          rw [← plO_succ] at HN
          clear hI
          go_wp2_with fail
          go_roundw
          case rel => exact ⟨a + 1, _, _, hlt, by go_num, HN⟩
          case measure => simp [intOf]; omega
    · obtain rfl : a = n := by omega
      have dlt : decide ((a : Int) < (a : Int)) = false := by simp
      obtain ⟨xs, r1, rx⟩ := hI.out.rr
      obtain ⟨ys, p1, px⟩ := hI.out.pp
      obtain ⟨ra, rc, rfl⟩ := row_form r1
      obtain ⟨pa, pc, rfl⟩ := row_form p1
      have k0 := hI.out.x4.c0
      have k1 := hI.out.x4.c1
      have q0 := hI.out.x2.c0
      have q1 := hI.out.x2.c1
      have z0 := hI.out.x2.f0
      have z1 := hI.out.x2.f1
      have HI := hid hI.out
      clear hI r1 rx p1 px
      go_wp2_with fail
      have y0 := HI.out.x2.set0 (.slice ra a rc)
      have y1 := y0.set1 (.slice pa (plO a a).length pc)
      have kz0 := y1.c0
      have kz1 := y1.c1
      refine bodyPost_ret (v := .tuple #[.agg #[.slice ra a rc, .slice pa (plO a a).length pc], .bool true]) (by simp [results, Try.results6, go_sem, kz0, kz1]) rfl ?_
      obtain ⟨xs, r1, rx⟩ := HI.out.rr
      obtain ⟨ys, p1, px⟩ := HI.out.pp
      refine ⟨_, rfl, _, _, xs, ys, rfl, ownsRow_setCell_other (ownsRow_setCell_other r1 HI.out.r2 _) HI.out.r2 _, rx, ownsRow_setCell_other (ownsRow_setCell_other p1 HI.out.p2 _) HI.out.p2 _, px, HI.out.dj, ?_⟩
      exact (HI.out.bel.setCell (p := ⟨w.heap.size, 0, none⟩) (Nat.le_refl _) _).setCell (p := ⟨w.heap.size, 1, none⟩) (Nat.le_refl _) _
end Go.Proofs.Ytbimcammjohaoae.fnExactNewWorld
