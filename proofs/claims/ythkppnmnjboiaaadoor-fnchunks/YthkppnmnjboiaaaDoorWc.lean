import Derived.Test.YthkppnmnjboiaaaDoorByt
import Derived.Test.YthkppnmnjboiaaaDoorCm
namespace Go.Proofs.YthkppnmnjboiaaaDoor
open Go.ChangeShapes Go.WideShapes Go.ChangeAt Go.RowKit
set_option linter.unusedVariables false

theorem cstep_odd {x : Nat} (h : x % 2 = 1) : cstep x = x / 2 ^^^ 3988292384 := by unfold cstep; rw [if_pos h]
theorem cstep_even {x : Nat} (h : ¬ x % 2 = 1) : cstep x = x / 2 := by unfold cstep; rw [if_neg h]
theorem v32 {a b : Nat} (h : a = b) : Value.int .u32 (a : Int) = .int .u32 (b : Int) := by rw [h]

set_option maxHeartbeats 400000 in
theorem fold_any (m : Nat) (w : World) (hm : m < 4294967296) :
    Calls Tryd.prog 30 #[.int .u32 (m : Int)] w fun e w' => e = .returned (.int .u32 (citer 8 m : Nat)) ∧ w' = w := by
  go_enter Tryd.func30, Tryd.ntmps30
  go_wp2
  go_loop [0, 3] (fun v i => ∃ k : Nat, k ≤ 8 ∧ i = .int .i64 k ∧ v = .int .u32 (citer k m : Nat)) (fun _ i => 8 - (intOf i).toNat)
  case atStart => exact ⟨0, Nat.zero_le _, rfl, rfl⟩
  case round =>
    obtain ⟨k, hk, rfl, rfl⟩ := hrel
    have hb := citer_lt k m hm
    by_cases hlt : k < 8
    · have HS : Hid (citer (k + 1) m = cstep (citer k m)) := rfl
      generalize citer k m = x at hb HS
      by_cases ho : x % 2 = 1
      · have ht : (((x : Int) % 2) == 1) = true := by simp; omega
        have e1 : bits BinOp.xor IntKind.u32 ((x : Int) / 2) 3988292384 = ((x / 2 ^^^ 3988292384 : Nat) : Int) := u32_xor_nat (x / 2) 3988292384 (by omega) (by omega)
        go_wp2
        go_round
        case rel => exact ⟨k + 1, hlt, by go_num, v32 (by rw [HS.out, cstep_odd ho])⟩
        case measure => simp [intOf]; omega
      · have ht : (((x : Int) % 2) == 1) = false := by simp; omega
        go_wp2
        go_round
        case rel => exact ⟨k + 1, hlt, by go_num, v32 (a := x / 2) (by rw [HS.out, cstep_even ho])⟩
        case measure => simp [intOf]; omega
    · obtain rfl : k = 8 := by omega
      go_wp2
      go_ret
      exact ⟨rfl, rfl⟩

theorem fold_int (z : Int) (w : World) (h0 : 0 ≤ z) (h1 : z < 4294967296) :
    Calls Tryd.prog 30 #[.int .u32 z] w fun e w' => e = .returned (.int .u32 (citer 8 z.toNat : Nat)) ∧ w' = w := by
  obtain ⟨m, rfl⟩ := Int.eq_ofNat_of_zero_le h0
  exact fold_any m w (by omega)

def crcEnd (x : Int) : Int := bits BinOp.xor IntKind.u32 x 4294967295

set_option maxHeartbeats 400000 in
theorem specCrc (a : Option Addr) (n c : Nat) (f : Nat → Int) (w : World) (hn : n ≤ 4194304) (hf : Byt f) (h : Seg w a n f) :
    Calls Tryd.prog 23 #[.slice a n c] w fun e w' => e = .returned (.int .u32 (crcEnd (crcS f n : Nat))) ∧ w' = w := by
  rcases h with h | ⟨b, off, rfl, hb, hc⟩
  · subst h
    go_enter Tryd.func23, Tryd.ntmps23
    go_wp2
    refine wp_loop_rounds 1 ?_; rw [rounds_succ]; go_wp2
    go_ret
    exact ⟨rfl, rfl⟩
  · go_enter Tryd.func23, Tryd.ntmps23
    go_wp2
    go_loop [3, 4] (fun v i => ∃ k : Nat, k ≤ n ∧ i = .int .i64 k ∧ v = .int .u32 (crcS f k : Nat)) (fun _ i => n - (intOf i).toNat)
    case atStart => exact ⟨0, Nat.zero_le _, rfl, rfl⟩
    case round =>
      obtain ⟨k, hk, rfl, rfl⟩ := hrel
      have hx := crcI_lt f hf k
      rw [← crc_eq f hf k] at hx
      by_cases hlt : k < n
      · have HS : Hid (crcS f (k + 1) = citer 8 ((crcS f k ^^^ (f k).toNat) % 256) ^^^ crcS f k / 256) := rfl
        generalize crcS f k = x at hx HS
        have hck := hc k hlt
        have hfk := hf k
        have e1 : bits BinOp.xor IntKind.u32 (x : Int) (f k) = ((x ^^^ (f k).toNat : Nat) : Int) := by
          have := u32_xor x (f k) (by omega) (by omega) (by omega) (by omega)
          simpa using this
        have hlo := citer_lt 8 ((x ^^^ (f k).toNat) % 256) (by omega)
        generalize hy : x ^^^ (f k).toNat = y at HS e1 hlo
        clear hy
        go_wp2_with fail
        refine (fold_int _ _ (by omega) (by omega)).mono ?_
        rintro e w' ⟨rfl, rfl⟩
        rw [show ((y : Int) % 256).toNat = y % 256 from by omega]
        generalize citer 8 (y % 256) = z at HS hlo
        have e2 : bits BinOp.xor IntKind.u32 (z : Int) ((x : Int) / 256) = ((z ^^^ x / 256 : Nat) : Int) := u32_xor_nat z (x / 256) hlo (by omega)
        go_wp2
        go_round
        case rel => exact ⟨k + 1, hlt, by go_num, v32 HS.out.symm⟩
        case measure => simp [intOf]; omega
      · obtain rfl : k = n := by omega
        go_wp2
        go_ret
        exact ⟨rfl, rfl⟩

theorem crcEnd_swap (x : Nat) (h : x < 4294967296) : bits BinOp.xor IntKind.u32 IntKind.u32.max (x : Int) = crcEnd (x : Int) := by
  have e : IntKind.u32.max = ((4294967295 : Nat) : Int) := by decide
  unfold crcEnd
  rw [e, u32_xor_nat _ _ (by omega) h, show (4294967295 : Int) = ((4294967295 : Nat) : Int) from rfl, u32_xor_nat _ _ h (by omega), Nat.xor_comm]

set_option maxHeartbeats 800000 in
theorem implCrc (a : Option Addr) (n c : Nat) (f : Nat → Int) (w : World) (hn : n ≤ 4194304) (hf : Byt f) (h : Seg w a n f) :
    Calls Tryd.prog 45 #[.slice a n c] w fun e w' => e = .returned (.int .u32 (crcEnd (crcI f n : Nat))) ∧ w' = w := by
  rcases h with h | ⟨b, off, rfl, hb, hc⟩
  · subst h
    go_enter Tryd.func45, Tryd.ntmps45
    go_wp2
    refine wp_loop_rounds 1 ?_; rw [rounds_succ]; go_wp2
    go_ret
    exact ⟨congrArg (fun x => Ending.returned (Value.int .u32 x)) (crcEnd_swap 4294967295 (by omega)), rfl⟩
  · go_enter Tryd.func45, Tryd.ntmps45
    go_wp2
    go_loop [3, 9] (fun v i => ∃ k : Nat, k ≤ n ∧ i = .int .i64 k ∧ v = .int .u32 (crcI f k : Nat)) (fun _ i => n - (intOf i).toNat)
    case atStart => exact ⟨0, Nat.zero_le _, rfl, rfl⟩
    case round =>
      obtain ⟨k, hk, rfl, rfl⟩ := hrel
      have hx := crcI_lt f hf k
      by_cases hlt : k < n
      · have HS : Hid (crcI f (k + 1) = citer 8 (crcI f k ^^^ (f k).toNat)) := rfl
        have hfk := hf k
        have hy : crcI f k ^^^ (f k).toNat < 4294967296 := Nat.xor_lt_two_pow (n := 32) hx (by omega)
        generalize crcI f k = x at hx HS hy
        have hck := hc k hlt
        have e1 : bits BinOp.xor IntKind.u32 (x : Int) (f k) = ((x ^^^ (f k).toNat : Nat) : Int) := by
          have := u32_xor x (f k) (by omega) (by omega) (by omega) (by omega)
          simpa using this
        generalize x ^^^ (f k).toNat = y at HS e1 hy
        go_wp2
        go_loop [3, 17, 6] (fun v i _ => ∃ j : Nat, j ≤ 8 ∧ i = .int .i64 j ∧ v = .int .u32 (citer j y : Nat)) (fun _ i _ => 8 - (intOf i).toNat)
        case atStart => exact ⟨0, Nat.zero_le _, rfl, rfl⟩
        case round =>
          obtain ⟨j, hj, rfl, rfl⟩ := hrel
          have hb := citer_lt j y hy
          by_cases hlj : j < 8
          · have HT : Hid (citer (j + 1) y = cstep (citer j y)) := rfl
            generalize citer j y = z at hb HT
            have e3 : bits BinOp.and IntKind.u32 (z : Int) 1 = ((z % 2 : Nat) : Int) := by
              have := u32_and_nat z 1 hb (by omega)
              rw [Nat.and_one_is_mod] at this; exact this
            by_cases ho : z % 2 = 1
            · have ht : (bits BinOp.and IntKind.u32 (z : Int) 1 == 1) = true := by rw [e3, ho]; rfl
              have e4 : bits BinOp.xor IntKind.u32 ((z : Int) / 2) 3988292384 = ((z / 2 ^^^ 3988292384 : Nat) : Int) := u32_xor_nat (z / 2) 3988292384 (by omega) (by omega)
              clear e3
              go_wp2
              go_round
              case rel => exact ⟨j + 1, hlj, by go_num, v32 (by rw [HT.out, cstep_odd ho])⟩
              case measure => simp [intOf]; omega
            · have ht : (bits BinOp.and IntKind.u32 (z : Int) 1 == 1) = false := by rw [e3, show z % 2 = 0 from by omega]; rfl
              clear e3
              go_wp2
              go_round
              case rel => exact ⟨j + 1, hlj, by go_num, v32 (a := z / 2) (by rw [HT.out, cstep_even ho])⟩
              case measure => simp [intOf]; omega
          · obtain rfl : j = 8 := by omega
            go_wp2
            go_round
            case rel => exact ⟨k + 1, hlt, by go_num, v32 HS.out.symm⟩
            case measure => simp [intOf]; omega
      · obtain rfl : k = n := by omega
        go_wp2
        go_ret
        exact ⟨congrArg (fun x => Ending.returned (Value.int .u32 x)) (crcEnd_swap _ hx), rfl⟩
end Go.Proofs.YthkppnmnjboiaaaDoor
