import Derived.Test.YthkppnmnjboiaaaDoorByt
import Derived.Laws.BitsAllLaws
namespace Go.Proofs.YthkppnmnjboiaaaDoor
open Go.ChangeShapes Go.WideShapes Go.ChangeAt Go.RowKit
set_option linter.unusedVariables false

def uvF : Nat → Nat → List Int
  | 0, v => [(v : Int)]
  | k + 1, v => if v < 128 then [(v : Int)] else ((128 + v % 128 : Nat) : Int) :: uvF k (v / 128)

def Own (w : World) (B : Nat) (v : Value) (zs : List Int) : Prop := w.ownsRow B 5 1 v zs.length (zs.map (Value.int .u8))

theorem uvF_lt (k v : Nat) (h : v < 128) : uvF k v = [(v : Int)] := by
  cases k <;> simp [uvF, h]
theorem uvF_ge (k v : Nat) (h : ¬ v < 128) : uvF (k + 1) v = ((128 + v % 128 : Nat) : Int) :: uvF k (v / 128) := by
  simp [uvF, h]
theorem uvF_len (k : Nat) : ∀ v, (uvF k v).length ≤ k + 1 ∧ 0 < (uvF k v).length := by
  induction k with
  | zero => intro v; simp [uvF]
  | succ k ih =>
    intro v
    by_cases h : v < 128
    · rw [uvF_lt _ _ h]; simp
    · rw [uvF_ge _ _ h]; have := ih (v / 128); simp; omega
theorem uvF_byte (k : Nat) : ∀ v, v < 128 ^ (k + 1) → ∀ z ∈ uvF k v, 0 ≤ z ∧ z < 256 := by
  induction k with
  | zero => intro v h z hz; simp [uvF] at hz; subst hz; simp at h; omega
  | succ k ih =>
    intro v h z hz
    by_cases hv : v < 128
    · rw [uvF_lt _ _ hv] at hz; simp at hz; subst hz; omega
    · rw [uvF_ge _ _ hv] at hz
      rcases List.mem_cons.1 hz with hz | hz
      · subst hz; omega
      · exact ih (v / 128) (by rw [Nat.pow_succ] at h; omega) z hz

theorem and127 (m : Nat) (h : m < 18446744073709551616) : bits BinOp.and IntKind.u64 (m : Int) 127 = ((m % 128 : Nat) : Int) := by
  have := u64_and_nat m 127 h (by omega)
  rw [show (127 : Nat) = 2 ^ 7 - 1 from rfl, Nat.and_two_pow_sub_one_eq_mod] at this
  exact this
theorem or128 (a : Nat) (h : a < 128) : bits BinOp.or IntKind.u8 (a : Int) 128 = ((128 + a : Nat) : Int) := by
  have e := u8_or_nat a 128 (by omega) (by omega)
  have e2 : a ||| 128 = 128 + a := by
    have := Nat.two_pow_add_eq_or_of_lt (i := 7) (b := a) h 1
    rw [Nat.or_comm]; simpa using this.symm
  rw [e2] at e
  exact e

theorem own_one (w : World) (B : Nat) (z : Int) (hB : B ≤ w.heap.size) : Own (w.alloc (.cells #[.int .u8 z] 5)) B (.slice (some ⟨w.heap.size, 0, none⟩) 1 1) [z] := by
  have := World.ownsRow_lit (base := B) (e := 5) (size := 1) w #[.int .u8 z] 1 hB (by unfold maxLen; omega) rfl
  exact this

end Go.Proofs.YthkppnmnjboiaaaDoor
