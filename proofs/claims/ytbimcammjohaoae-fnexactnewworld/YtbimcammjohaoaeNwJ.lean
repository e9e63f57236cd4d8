import Derived.Test.YtbimcammjohaoaeNwI
namespace Go.Proofs.Ytbimcammjohaoae.fnExactNewWorld
open Go.ChangeShapes Go.WideShapes Go.ChangeAt Go.RowKit
set_option linter.unusedVariables false
set_option linter.unusedSimpArgs false

theorem row_form {w : World} {B : Nat} {e : TypeId} {size : Nat} {v : Value} {n : Nat} {xs : List Value} (h : w.ownsRow B e size v n xs) : ∃ y c, v = .slice y n c := by
  obtain ⟨a, c, e, _⟩ := rd_of h
  exact ⟨a, c, e⟩
theorem NwS.start {w W : World} {b2 b4 : Nat} (bel : Below w.heap.size w W) (x2 : Bx2 W b2 (.slice none 0 0) (.slice none 0 0)) (x4 : Bx2 W b4 (.slice none 0 0) (.slice none 0 0)) (hb : b2 ≠ b4 ∧ w.heap.size ≤ b2 ∧ w.heap.size ≤ b4) (n : Nat) : NwS w W b2 b4 0 (plO n 0) (.slice none 0 0) (.slice none 0 0) :=
  ⟨bel, x2, x4, ⟨[], World.ownsRow_nil _ _ _ _, fun i hi => by omega⟩, ⟨[], World.ownsRow_nil _ _ _ _, fun i hi => by simp [plO_zero] at hi⟩, fun k hk => by simp [Value.ownBlock] at hk, by simp [Value.ownBlock], by simp [Value.ownBlock], by simp [Value.ownBlock], by simp [Value.ownBlock], hb⟩

set_option maxRecDepth 100000 in
set_option maxHeartbeats 2000000 in
theorem implW (n : Nat) (w : World) (h1 : 1 ≤ n) (h8 : n ≤ 8) :
    Calls Try.prog 7 #[.int .i64 (n : Int)] w fun e w' => ∃ v, e = .returned (.tuple #[v, .bool true]) ∧ NwA w w' n v := by
  have d1 : decide ((n : Int) < 1) = false := by simp; omega
  have d2 : decide ((8 : Int) < (n : Int)) = false := by simp; omega
  obtain ⟨W, hW⟩ : ∃ W, (w.alloc (.cells #[.slice none 0 0, .slice none 0 0] 25)).alloc (.cells #[.slice none 0 0, .slice none 0 0] 25) = W := ⟨_, rfl⟩
  have HI0 : Hid (NwS w W w.heap.size (w.heap.size + 1) 0 (plO n 0) (.slice none 0 0) (.slice none 0 0)) := hid (by
    rw [← hW]
    refine NwS.start (((Below.refl _ _).alloc (Nat.le_refl _) _).alloc (by simp) _) ⟨by simp, by simp, by simp, by simp, by simp; omega⟩ ⟨by simp, by simp, by simp, by simp, by simp⟩ ⟨by omega, by omega, by omega⟩ n)
  obtain ⟨iR, hiR, rz0, rz1, rz2⟩ := info_parts infoR
  obtain ⟨iP, hiP, pz0, pz1, pz2⟩ := info_parts infoP
  go_enter Try.func7, Try.ntmps7
  go_wp2_with fail
  try rw [hW]
  clear hW
  go_loopw [15] (fun iv wr => ∃ (a : Nat) (rv pv : Value), a ≤ n ∧ iv = .int .i64 (a : Int) ∧ Hid (NwS w wr w.heap.size (w.heap.size + 1) a (plO n a) rv pv)) (fun iv _ => n - (intOf iv).toNat)
  case atStart => exact ⟨0, _, _, Nat.zero_le _, rfl, HI0⟩
  case round =>
    clear HI0
    obtain ⟨a, rv, pv, ha, rfl, hI⟩ := hrel
    by_cases hlt : a < n
    · obtain ⟨xs, r1, rx⟩ := hI.out.rr
      obtain ⟨ra, rc, rfl⟩ := row_form r1
      have HS := hid hI.out.sz
      have k0 := hI.out.x4.c0
      have HR := hid (World.ownsRow.alloc r1 (.cells #[.int .i64 (a : Int), .slice none 0 0, .slice none 0 0, .slice none 0 0, .slice none 0 0] 60))
      have HNW := hid (cell5A wr (.int .i64 (a : Int)) (.slice none 0 0) (.slice none 0 0) (.slice none 0 0) (.slice none 0 0) 60)
      have HX := hid (rx.snoc r1.1 none none none none 0 0 0 0)
      have HI := hid hI.out
      have dlt : decide ((a : Int) < (n : Int)) = true := by simp; omega
      clear hI r1 rx
      go_wp2_with (at_builtin; refine wpList_app_at rfl _ _ 22 rfl w.heap.size 60 iR _ 5 104 Try.underlying22 hiR rz0 rz1 rz2 rfl (by decide) _ _ _ rfl HR.out ⟨wr.heap.size, 0, none⟩ 1 1 [.int .i64 (a : Int), .slice none 0 0, .slice none 0 0, .slice none 0 0, .slice none 0 0] ?g0 rfl ?g1 ?g2 ?g3 ?g4 ?g5 ?_)
      case g0 => rfl
      case g1 => exact HNW.out
      case g2 => intro u hu; simp at hu; rcases hu with rfl | rfl | rfl | rfl | rfl <;> rfl
      case g3 => unfold maxLen; omega
      case g4 => omega
      case g5 => have := HS.out; simp; omega
      intro v7 w7 hown7 hgr7 hloc7
      have gg : wr.grownBy w7 (Value.slice ra a rc).ownBlock := (World.grownBy_alloc wr _ _).trans hgr7
      have nx : NwS w (w7.setCell ⟨w.heap.size + 1, 0, none⟩ v7) w.heap.size (w.heap.size + 1) (a + 1) (plO n a) v7 pv := HI.out.putR HX.out hown7 gg (hloc7.imp id (fun q => ⟨_, q, by simp⟩))
      obtain ⟨ra7, rc7, rfl⟩ := row_form hown7
      have x7 := HI.out.x4.gr gg HI.out.r4
      have c7 := x7.c0
      have z7 := x7.f0
      obtain ⟨W8, hW8⟩ : ∃ W8, w7.setCell ⟨w.heap.size + 1, 0, none⟩ (.slice ra7 (a + 1) rc7) = W8 := ⟨_, rfl⟩
      rw [hW8] at nx
      have HN : Hid (NwS w W8 w.heap.size (w.heap.size + 1) (a + 1) (plO n a ++ plI a 0) (.slice ra7 (a + 1) rc7) pv) := hid (by rw [plI_zero, List.append_nil]; exact nx)
      clear hown7 hgr7 hloc7 gg nx x7 HI HX HR HNW k0
      go_wp2_with fail
      try rw [hW8]
      clear hW8 c7 z7
      go_loopw [26] (fun iv wq => ∃ (b : Nat) (pv : Value), b ≤ n ∧ iv = .int .i64 (b : Int) ∧ Hid (NwS w wq w.heap.size (w.heap.size + 1) (a + 1) (plO n a ++ plI a b) (.slice ra7 (a + 1) rc7) pv)) (fun iv _ => n - (intOf iv).toNat)
      case atStart => exact ⟨0, _, Nat.zero_le _, rfl, HN⟩
      case round =>
        clear HN
        obtain ⟨b, pv, hb, rfl, hI⟩ := hrel
        by_cases hlb : b < n
        · have dlb : decide ((b : Int) < (n : Int)) = true := by simp; omega
          by_cases hab : b = a
          · subst hab
            have dN : ((b : Int) != (b : Int)) = false := by simp
            have HN : Hid (NwS w wr w.heap.size (w.heap.size + 1) (b + 1) (plO n b ++ plI b (b + 1)) (.slice ra7 (b + 1) rc7) pv) := by rw [plI_same]; exact hI
            clear hI
            go_wp2_with fail
            go_roundw
            case rel => exact ⟨b + 1, pv, hlb, by go_num, HN⟩
            case measure => simp [intOf]; omega
          · have dN : ((a : Int) != (b : Int)) = true := by simp; omega
            have hLL : (plO n a ++ plI a b).length ≤ 72 := by
              have q1 := plO_len n a
              have q2 := plI_len a b
              have q3 : a * n ≤ 8 * 8 := Nat.mul_le_mul (by omega) h8
              rw [List.length_append]; omega
            have hap : plO n a ++ plI a (b + 1) = plO n a ++ plI a b ++ [(a, b)] := by rw [plI_succ a b hab, List.append_assoc]
            obtain ⟨L, hL⟩ : ∃ L, plO n a ++ plI a b = L := ⟨_, rfl⟩
            rw [hL] at hI hLL hap
            have HAP := hid hap
            have HL := hid hLL
            clear hL hap hLL
            obtain ⟨ys, p1, px⟩ := hI.out.pp
            obtain ⟨pa, pc, rfl⟩ := row_form p1
            have HS := hid hI.out.sz
            have k1 := hI.out.x4.c1
            have HR := hid (World.ownsRow.alloc p1 (.cells #[.int .i64 (a : Int), .int .i64 (b : Int), .slice none 0 0, .slice none 0 0, .int .i64 0, .int .i64 0] 68))
            have HNW := hid (cell6A wr (.int .i64 (a : Int)) (.int .i64 (b : Int)) (.slice none 0 0) (.slice none 0 0) (.int .i64 0) (.int .i64 0) 68)
            have HX := hid (px.snoc p1.1 a b none none 0 0)
            have HI := hid hI.out
            clear hI p1 px
            go_wp2_with (at_builtin; refine wpList_app_at rfl _ _ 23 rfl w.heap.size 68 iP _ 6 80 Try.underlying23 hiP pz0 pz1 pz2 rfl (by decide) _ _ _ rfl HR.out ⟨wr.heap.size, 0, none⟩ 1 1 [.int .i64 (a : Int), .int .i64 (b : Int), .slice none 0 0, .slice none 0 0, .int .i64 0, .int .i64 0] ?n0 rfl ?n1 ?n2 ?n3 ?n4 ?n5 ?_)
            case n0 => rfl
            case n1 => exact HNW.out
            case n2 => intro u hu; simp at hu; rcases hu with rfl | rfl | rfl | rfl | rfl | rfl <;> rfl
            case n3 => have := HL.out; unfold maxLen; omega
            case n4 => have := HL.out; omega
            case n5 => have := HS.out; simp; omega
            intro v9 w9 hown9 hgr9 hloc9
            have gg : wr.grownBy w9 (Value.slice pa L.length pc).ownBlock := (World.grownBy_alloc wr _ _).trans hgr9
            have nx : NwS w (w9.setCell ⟨w.heap.size + 1, 1, none⟩ v9) w.heap.size (w.heap.size + 1) (a + 1) (L ++ [(a, b)]) (.slice ra7 (a + 1) rc7) v9 := HI.out.putP (by rw [List.length_append]; exact HX.out) (by rw [List.length_append]; exact hown9) gg (hloc9.imp id (fun q => ⟨_, q, by simp⟩))
            obtain ⟨pa9, pc9, rfl⟩ := row_form hown9
            have x9 := HI.out.x4.gr gg HI.out.p4
            have c9 := x9.c1
            have z9 := x9.f1
            have HN := hid nx
            rw [← HAP.out] at HN
            clear hown9 hgr9 hloc9 gg nx x9 HI HX HR HNW k1
            go_wp2_with fail
            go_roundw
            case rel => exact ⟨b + 1, _, hlb, by go_num, HN⟩
            case measure => simp [intOf]; omega
        · obtain rfl : b = n := by omega
          have dlb : decide ((b : Int) < (b : Int)) = false := by simp
          have HN := hid hI.out
          rw [← plO_succ] at HN
          clear hI
          go_wp2_with fail
          go_roundw
          case rel => exact ⟨a + 1, _, _, hlt, by go_num, HN⟩
          case measure => simp [intOf]; omega
    · obtain rfl : a = n := by omega
      have dlt : decide ((a : Int) < (a : Int)) = false := by simp
      obtain ⟨xs, r1, rx⟩ := hI.out.rr
      obtain ⟨ys, p1, px⟩ := hI.out.pp
      obtain ⟨ra, rc, rfl⟩ := row_form r1
      obtain ⟨pa, pc, rfl⟩ := row_form p1
      have k0 := hI.out.x4.c0
      have k1 := hI.out.x4.c1
      have q0 := hI.out.x2.c0
      have q1 := hI.out.x2.c1
      have z0 := hI.out.x2.f0
      have z1 := hI.out.x2.f1
      have HI := hid hI.out
      clear hI r1 rx p1 px
      go_wp2_with fail
      have y0 := HI.out.x2.set0 (.slice ra a rc)
      have y1 := y0.set1 (.slice pa (plO a a).length pc)
      have kz0 := y1.c0
      have kz1 := y1.c1
      refine bodyPost_ret (v := .tuple #[.agg #[.slice ra a rc, .slice pa (plO a a).length pc], .bool true]) (by simp [results, Try.results7, go_sem, kz0, kz1]) rfl ?_
      obtain ⟨xs, r1, rx⟩ := HI.out.rr
      obtain ⟨ys, p1, px⟩ := HI.out.pp
      refine ⟨_, rfl, _, _, xs, ys, rfl, ownsRow_setCell_other (ownsRow_setCell_other r1 HI.out.r2 _) HI.out.r2 _, rx, ownsRow_setCell_other (ownsRow_setCell_other p1 HI.out.p2 _) HI.out.p2 _, px, HI.out.dj, ?_⟩
      exact (HI.out.bel.setCell (p := ⟨w.heap.size, 0, none⟩) (Nat.le_refl _) _).setCell (p := ⟨w.heap.size, 1, none⟩) (Nat.le_refl _) _
end Go.Proofs.Ytbimcammjohaoae.fnExactNewWorld
