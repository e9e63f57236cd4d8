import Derived.Test.YtbimcammjohaoacDoorByt
import Derived.Laws.BitsAllLaws
namespace Go.Proofs.YtbimcammjohaoacDoor
open Go.ChangeShapes Go.WideShapes Go.ChangeAt Go.RowKit
set_option linter.unusedVariables false

def uvF : Nat → Nat → List Int
  | 0, v => [(v : Int)]
  | k + 1, v => if v < 128 then [(v : Int)] else ((128 + v % 128 : Nat) : Int) :: uvF k (v / 128)

def Own (w : World) (B : Nat) (v : Value) (zs : List Int) : Prop := w.ownsRow B 5 1 v zs.length (zs.map (Value.int .u8))

theorem uvF_lt (k v : Nat) (h : v < 128) : uvF k v = [(v : Int)] := by
  cases k <;> simp [uvF, h]
theorem uvF_ge (k v : Nat) (h : ¬ v < 128) : uvF (k + 1) v = ((128 + v % 128 : Nat) : Int) :: uvF k (v / 128) := by
  simp [uvF, h]
theorem uvF_len (k : Nat) : ∀ v, (uvF k v).length ≤ k + 1 ∧ 0 < (uvF k v).length := by
  induction k with
  | zero => intro v; simp [uvF]
  | succ k ih =>
    intro v
    by_cases h : v < 128
    · rw [uvF_lt _ _ h]; simp
    · rw [uvF_ge _ _ h]; have := ih (v / 128); simp; omega
theorem uvF_byte (k : Nat) : ∀ v, v < 128 ^ (k + 1) → ∀ z ∈ uvF k v, 0 ≤ z ∧ z < 256 := by
  induction k with
  | zero => intro v h z hz; simp [uvF] at hz; subst hz; simp at h; omega
  | succ k ih =>
    intro v h z hz
    by_cases hv : v < 128
    · rw [uvF_lt _ _ hv] at hz; simp at hz; subst hz; omega
    · rw [uvF_ge _ _ hv] at hz
      rcases List.mem_cons.1 hz with hz | hz
      · subst hz; omega
      · exact ih (v / 128) (by rw [Nat.pow_succ] at h; omega) z hz

theorem and127 (m : Nat) (h : m < 18446744073709551616) : bits BinOp.and IntKind.u64 (m : Int) 127 = ((m % 128 : Nat) : Int) := by
  have := u64_and_nat m 127 h (by omega)
  rw [show (127 : Nat) = 2 ^ 7 - 1 from rfl, Nat.and_two_pow_sub_one_eq_mod] at this
  exact this
theorem or128 (a : Nat) (h : a < 128) : bits BinOp.or IntKind.u8 (a : Int) 128 = ((128 + a : Nat) : Int) := by
  have e := u8_or_nat a 128 (by omega) (by omega)
  have e2 : a ||| 128 = 128 + a := by
    have := Nat.two_pow_add_eq_or_of_lt (i := 7) (b := a) h 1
    rw [Nat.or_comm]; simpa using this.symm
  rw [e2] at e
  exact e

theorem own_one (w : World) (B : Nat) (z : Int) (hB : B ≤ w.heap.size) : Own (w.alloc (.cells #[.int .u8 z] 5)) B (.slice (some ⟨w.heap.size, 0, none⟩) 1 1) [z] := by
  have := World.ownsRow_lit (base := B) (e := 5) (size := 1) w #[.int .u8 z] 1 hB (by unfold maxLen; omega) rfl
  exact this

set_option maxRecDepth 100000 in
set_option maxHeartbeats 800000 in
theorem appendUv (B m0 : Nat) (bv : Value) (zs0 : List Int) (w : World) (hm : m0 < 18446744073709551616) (hB : B ≤ w.heap.size) (hl : zs0.length ≤ 1000000000000) (ho : Own w B bv zs0) :
    Calls Tryd.prog 23 #[bv, .int .u64 (m0 : Int)] w fun e w' => ∃ v, e = .returned v ∧ Own w' B v (zs0 ++ uvF 9 m0) ∧ Below B w w' ∧ w.heap.size < w'.heap.size := by
  obtain ⟨i0, hi, hz0, hz1, hz2⟩ := info_parts Tryd.infoByte
  go_enter Tryd.func23, Tryd.ntmps23
  go_wp2_with fail
  go_loopw [0, 1] (fun b v wr => ∃ (k m : Nat) (zs : List Int), k ≤ 9 ∧ m < 128 ^ (k + 1) ∧ m < 18446744073709551616 ∧ v = .int .u64 (m : Int) ∧ Own wr B b zs ∧ Below B w wr ∧ w.heap.size ≤ wr.heap.size ∧ zs.length + k ≤ zs0.length + 9 ∧ zs ++ uvF k m = zs0 ++ uvF 9 m0) (fun _ v _ => (intOf v).toNat)
  case atStart => exact ⟨9, m0, zs0, Nat.le_refl _, by omega, hm, rfl, ho, Below.refl _ _, Nat.le_refl _, Nat.le_refl _, rfl⟩
  case round =>
    obtain ⟨k, m, zs, hk, hmk, hm64, rfl, hown, hbel, hsz, hlen, heq⟩ := hrel
    have HE : Hid (zs ++ uvF k m = zs0 ++ uvF 9 m0) := heq
    have HK : Hid (m < 128 ^ (k + 1)) := hmk
    clear heq ho hmk
    unfold Own at hown
    by_cases hlt : m < 128
    · go_wp2_with (at_builtin; refine wpList_append_own _ rfl _ _ 22 rfl B 5 i0 (.int .u8 0) 1 1 Tryd.underlying22 hi hz0 hz1 hz2 rfl (by decide) _ _ _ rfl (hown.alloc _) ⟨wr.heap.size, 0, none⟩ 1 1 [.int .u8 (m : Int)] rfl rfl ?c1 ?c2 ?c3 ?c4 ?c5 ?_)
      case c1 => exact cell_one_new _ _ _
      case c2 => intro u hu; simp at hu; subst hu; rfl
      case c3 => unfold maxLen; omega
      case c4 => omega
      case c5 => simp; omega
      · intro v' w1 hown' hgr _
        have hB1 := hbel.size
        have R : Own w1 B v' (zs0 ++ uvF 9 m0) := by
          rw [← HE.out, uvF_lt k m hlt]
          unfold Own
          rw [List.length_append, List.map_append]
          exact hown'
        have RB : Below B w w1 := (hbel.alloc (by omega) _).grown hgr (by simp; omega) (fun k hk => (hown.lt k hk).1)
        have RZ := hgr.size
        simp at RZ
        clear hown' hgr hown
        go_wp2
        go_ret
        exact ⟨v', rfl, R, RB, by omega⟩
    · have e1 := and127 m hm64
      have e2 : bits BinOp.or IntKind.u8 ((m : Int) % 128) 128 = 128 + (m : Int) % 128 := by
        have := or128 (m % 128) (by omega)
        simpa using this
      go_wp2_with (at_builtin; refine wpList_append_own _ rfl _ _ 22 rfl B 5 i0 (.int .u8 0) 1 1 Tryd.underlying22 hi hz0 hz1 hz2 rfl (by decide) _ _ _ rfl (hown.alloc _) ⟨wr.heap.size, 0, none⟩ 1 1 [.int .u8 (128 + (m : Int) % 128)] rfl rfl ?d1 ?d2 ?d3 ?d4 ?d5 ?_)
      case d1 => exact cell_one_new _ _ _
      case d2 => intro u hu; simp at hu; subst hu; rfl
      case d3 => unfold maxLen; omega
      case d4 => omega
      case d5 => simp; omega
      · intro v' w1 hown' hgr _
        have hk1 : 1 ≤ k := by
          have := HK.out
          rcases Nat.eq_zero_or_pos k with rfl | h
          · simp at this; omega
          · exact h
        obtain ⟨j, rfl⟩ : ∃ j, k = j + 1 := ⟨k - 1, by omega⟩
        have hB1 := hbel.size
        have R : Own w1 B v' (zs ++ [128 + (m : Int) % 128]) := by
          unfold Own
          rw [List.length_append, List.map_append]
          exact hown'
        have RE : Hid (zs ++ [128 + (m : Int) % 128] ++ uvF j (m / 128) = zs0 ++ uvF 9 m0) := by
          have := HE.out
          rw [uvF_ge j m hlt] at this
          show _ = _
          rw [← this]; simp
        have RK : Hid (m / 128 < 128 ^ (j + 1)) := by
          have := HK.out
          rw [Nat.pow_succ] at this
          show _ < _
          omega
        have RB : Below B w w1 := (hbel.alloc (by omega) _).grown hgr (by simp; omega) (fun k hk => (hown.lt k hk).1)
        have RZ := hgr.size
        simp at RZ
        clear hown' hgr hown HE HK e2 e1
        go_wp2
        go_roundw
        case rel => exact ⟨j, m / 128, _, by omega, RK.out, by omega, by go_num, R, RB, by omega, by simp; omega, RE.out⟩
        case measure => simp [intOf]; omega
end Go.Proofs.YtbimcammjohaoacDoor
