import Derived.Test.YthkppnmnjboiaaaDoorFp
namespace Go.Proofs.YthkppnmnjboiaaaDoor
open Go.ChangeShapes Go.WideShapes Go.ChangeAt Go.RowKit
set_option linter.unusedVariables false
set_option linter.unusedSimpArgs false

theorem Own.weakF {w : World} {B B' : Nat} {v : Value} {zs : List Int} (h : Own w B v zs) (hB : B' ≤ B) : Own w B' v zs := by
  obtain ⟨h1, h2⟩ := h
  refine ⟨h1, h2.imp id ?_⟩
  rintro ⟨g, cap, cur, e, hg, r⟩
  exact ⟨g, cap, cur, e, by omega, r⟩

theorem kindOkC (k : Int) (w : World) (hk0 : -9223372036854775808 ≤ k) (hk1 : k ≤ 9223372036854775807) :
    Calls Tryd.prog 36 #[.int .i64 k] w fun e w' => e = .returned (.bool (decide (1 ≤ k) && decide (k ≤ 3))) ∧ w' = w := by
  by_cases h1 : k = 1
  · subst h1
    go_enter Tryd.func36, Tryd.ntmps36
    go_wp2_with fail
    go_ret
    exact ⟨rfl, rfl⟩
  · by_cases h2 : k = 2
    · subst h2
      go_enter Tryd.func36, Tryd.ntmps36
      go_wp2_with fail
      go_ret
      exact ⟨rfl, rfl⟩
    · by_cases h3 : k = 3
      · subst h3
        go_enter Tryd.func36, Tryd.ntmps36
        go_wp2_with fail
        go_ret
        exact ⟨rfl, rfl⟩
      · have d1 : (k == 1) = false := by simpa using h1
        have d2 : (k == 2) = false := by simpa using h2
        have d3 : (k == 3) = false := by simpa using h3
        have e : Hid ((decide (1 ≤ k) && decide (k ≤ 3)) = false) := hid (by simp; omega)
        rw [e.out]
        clear h1 h2 h3
        go_enter Tryd.func36, Tryd.ntmps36
        go_wp2_with fail
        go_ret
        exact ⟨rfl, rfl⟩

set_option maxRecDepth 100000 in
set_option maxHeartbeats 1000000 in
theorem appendSumC (B : Nat) (bv : Value) (zs : List Int) (V : Int) (w : World) (hB : B ≤ w.heap.size) (hl : zs.length ≤ 1000000000) (ho : Own w B bv zs) (hV : 0 ≤ V ∧ V < 4294967296) :
    Calls Tryd.prog 44 #[bv, .int .u32 V] w fun e w' => ∃ v, e = .returned v ∧ Own w' B v (zs ++ sum4 V) ∧ Below B w w' := by
  obtain ⟨i0, hi, hz0, hz1, hz2⟩ := info_parts Tryd.infoByte
  have p1 : IntKind.u8.wrap (V / 16777216) = V / 16777216 := by rw [IntKind.wrap_u8]; omega
  have p2 : IntKind.u8.wrap (V / 65536) = V / 65536 % 256 := by rw [IntKind.wrap_u8]
  have p3 : IntKind.u8.wrap (V / 256) = V / 256 % 256 := by rw [IntKind.wrap_u8]
  have p4 : IntKind.u8.wrap V = V % 256 := by rw [IntKind.wrap_u8]
  have ho' := ho
  unfold Own at ho'
  go_enter Tryd.func44, Tryd.ntmps44
  go_wp2_with (at_builtin; refine wpList_app_at rfl _ _ 22 rfl B 5 i0 (.int .u8 0) 1 1 Tryd.underlying22 hi hz0 hz1 hz2 rfl (by decide) _ _ _ rfl (World.ownsRow.alloc ho' _) ⟨w.heap.size, 0, none⟩ 4 4 [.int .u8 (V / 16777216), .int .u8 (V / 65536 % 256), .int .u8 (V / 256 % 256), .int .u8 (V % 256)] rfl rfl ?d1 ?d2 ?d3 ?d4 ?d5 ?_)
  case d1 => first | exact cell4 _ _ _ _ _ _ | exact cell4A _ _ _ _ _ _
  case d2 => intro u hu; simp at hu; rcases hu with rfl | rfl | rfl | rfl <;> rfl
  case d3 => unfold maxLen; first | omega | (simp; omega)
  case d4 => first | omega | (simp; omega)
  case d5 => simp; omega
  intro v6 w6 hown6 hgr6 hloc6
  have R : Hid (Own w6 B v6 (zs ++ sum4 V)) := by
    unfold Own
    rw [List.length_append, List.map_append]
    exact hid hown6
  have RB := hid (((Below.refl B w).alloc hB (.cells #[.int .u8 (V / 16777216), .int .u8 (V / 65536 % 256), .int .u8 (V / 256 % 256), .int .u8 (V % 256)] 5)).grown hgr6 (by simp; omega) (fun q hq => (World.ownsRow.lt ho q hq).1))
  clear hown6 hgr6 hloc6 ho' ho
  go_wp2_with fail
  go_ret
  exact ⟨_, rfl, R.out, RB.out⟩

end Go.Proofs.YthkppnmnjboiaaaDoor
