import Derived.WalkKit
import Derived.Laws.BitsAllLaws
namespace Go.Proofs.YthkppnmnjboiaaaDoor

def cstep (x : Nat) : Nat := if x % 2 = 1 then x / 2 ^^^ 3988292384 else x / 2
def citer : Nat → Nat → Nat
  | 0, x => x
  | k + 1, x => cstep (citer k x)
def crcI (f : Nat → Int) : Nat → Nat
  | 0 => 4294967295
  | k + 1 => citer 8 (crcI f k ^^^ (f k).toNat)
def crcS (f : Nat → Int) : Nat → Nat
  | 0 => 4294967295
  | k + 1 => citer 8 ((crcS f k ^^^ (f k).toNat) % 256) ^^^ crcS f k / 256

theorem xor_div2 (a b : Nat) : (a ^^^ b) / 2 = a / 2 ^^^ b / 2 := by
  apply Nat.eq_of_testBit_eq
  intro i
  rw [← Nat.testBit_succ, Nat.testBit_xor, Nat.testBit_xor, ← Nat.testBit_succ, ← Nat.testBit_succ]

theorem xor_mod2 (a b : Nat) : (a ^^^ b * 2) % 2 = a % 2 := by
  have h2 : ((a ^^^ b * 2) % 2 = 1) ↔ (a % 2 = 1) := by simp
  omega

theorem cstep_lin (a h : Nat) : cstep (a ^^^ h * 2) = cstep a ^^^ h := by
  unfold cstep
  rw [xor_mod2, xor_div2, show h * 2 / 2 = h from by omega]
  split
  · rw [Nat.xor_assoc, Nat.xor_comm h, ← Nat.xor_assoc]
  · rfl

theorem citer_lin (k : Nat) : ∀ a h : Nat, citer k (a ^^^ h * 2 ^ k) = citer k a ^^^ h := by
  induction k with
  | zero => intro a h; simp [citer]
  | succ k ih =>
    intro a h
    have e : h * 2 ^ (k + 1) = (h * 2) * 2 ^ k := by rw [Nat.pow_succ, Nat.mul_comm (2 ^ k), Nat.mul_assoc]
    rw [e]
    show cstep (citer k _) = _
    rw [ih, cstep_lin]
    rfl

theorem low_high (x : Nat) : x = x % 256 ^^^ x / 256 * 2 ^ 8 := by
  apply Nat.eq_of_testBit_eq
  intro i
  rw [Nat.testBit_xor, show (256 : Nat) = 2 ^ 8 from rfl, Nat.testBit_mod_two_pow, Nat.testBit_mul_two_pow, Nat.testBit_div_two_pow]
  by_cases h : i < 8
  · have : ¬ 8 ≤ i := by omega
    simp [h, this]
  · have h' : 8 ≤ i := by omega
    simp [h, h', Nat.sub_add_cancel h']

theorem citer8 (x : Nat) : citer 8 x = citer 8 (x % 256) ^^^ x / 256 := by
  have h := citer_lin 8 (x % 256) (x / 256)
  rw [← low_high] at h
  exact h

theorem xor_div256 (v b : Nat) (h : b < 256) : (v ^^^ b) / 256 = v / 256 := by
  apply Nat.eq_of_testBit_eq
  intro i
  rw [show (256 : Nat) = 2 ^ 8 from rfl, Nat.testBit_div_two_pow, Nat.testBit_div_two_pow, Nat.testBit_xor]
  have : b.testBit (i + 8) = false := by
    exact Nat.testBit_lt_two_pow (Nat.lt_of_lt_of_le (show b < 2 ^ 8 from h) (Nat.pow_le_pow_right (by omega) (by omega)))
  rw [this]; simp

theorem crc_eq (f : Nat → Int) (hf : ∀ i, 0 ≤ f i ∧ f i < 256) (k : Nat) : crcS f k = crcI f k := by
  induction k with
  | zero => rfl
  | succ k ih =>
    show citer 8 ((crcS f k ^^^ (f k).toNat) % 256) ^^^ crcS f k / 256 = citer 8 (crcI f k ^^^ (f k).toNat)
    rw [ih, citer8 (crcI f k ^^^ (f k).toNat), xor_div256 _ _ (by have := hf k; omega)]

theorem cstep_lt (x : Nat) (h : x < 4294967296) : cstep x < 4294967296 := by
  unfold cstep
  split
  · exact Nat.xor_lt_two_pow (n := 32) (by omega) (by omega)
  · omega

theorem citer_lt (k x : Nat) (h : x < 4294967296) : citer k x < 4294967296 := by
  induction k with
  | zero => exact h
  | succ k ih => exact cstep_lt _ ih

theorem crcI_lt (f : Nat → Int) (hf : ∀ i, 0 ≤ f i ∧ f i < 256) (k : Nat) : crcI f k < 4294967296 := by
  induction k with
  | zero => show 4294967295 < 4294967296; omega
  | succ k ih => exact citer_lt _ _ (Nat.xor_lt_two_pow (n := 32) ih (by have := hf k; omega))
end Go.Proofs.YthkppnmnjboiaaaDoor
