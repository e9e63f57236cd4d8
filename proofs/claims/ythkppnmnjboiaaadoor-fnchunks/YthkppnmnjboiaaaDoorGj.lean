import Derived.Test.YthkppnmnjboiaaaDoorGi
namespace Go.Proofs.YthkppnmnjboiaaaDoor
open Go.ChangeShapes Go.WideShapes Go.ChangeAt Go.RowKit
set_option linter.unusedVariables false
set_option linter.unusedSimpArgs false

def Plc (w : World) (pb : Nat) (x : Int) (u : Value) : Prop := w.cell? ⟨pb, 1, none⟩ = some (.int .i64 x) ∧ w.cell? ⟨pb, 2, none⟩ = some u ∧ pb < w.heap.size
theorem Plc.below {w w' : World} {B pb : Nat} {x : Int} {u : Value} (h : Plc w pb x u) (hb : Below B w w') (hB : pb < B) : Plc w' pb x u :=
  ⟨(hb.cell (p := ⟨pb, 1, none⟩) hB).trans h.1, (hb.cell (p := ⟨pb, 2, none⟩) hB).trans h.2.1, Nat.lt_of_lt_of_le h.2.2 hb.size⟩
theorem grown_trans {w w1 w2 : World} {cb : Nat} (h1 : w.grownBy w1 (some cb)) (h2 : w1.grownBy w2 (some cb)) : w.grownBy w2 (some cb) :=
  h1.andThen h2 (fun j hj => .inr hj)
theorem grown_below {w w1 w2 : World} {cb : Nat} (h1 : w.grownBy w1 (some cb)) (h2 : Below w1.heap.size w1 w2) : w.grownBy w2 (some cb) :=
  grown_trans h1 ⟨h2.os, h2.tape, h2.output, h2.size, fun k hk _ => h2.block k hk⟩
theorem grown_refl (w : World) (row : Option Nat) : w.grownBy w row := ⟨rfl, rfl, rfl, Nat.le_refl _, fun _ _ _ => rfl⟩

set_option maxRecDepth 100000 in
set_option maxHeartbeats 1000000 in
theorem uvOut (cb B : Nat) (a : Option Addr) (n c : Nat) (x : Int) (aT aS aL aE : Addr) (w : World) (hn : n ≤ 4194304) (hcur : Cur w cb a n c x) (hx : x < 0 ∨ (n : Int) ≤ x) (hE : Errs w B aT aS aL aE) :
    Calls Tryd.prog 38 #[.pointer (some ⟨cb, 0, none⟩)] w fun e w' => ∃ pb, e = .returned (.tuple #[.int .u64 0, .iface 82 (.pointer (some ⟨pb, 0, none⟩))]) ∧ w.heap.size ≤ pb ∧ Plc w' pb x (.iface 103 (.pointer (some aE))) ∧ Below w.heap.size w w' := by
  have HC := hid hcur
  have HE := hid hE
  obtain ⟨k0, k1, k2⟩ := hcur
  clear hE
  go_enter Tryd.func38, Tryd.ntmps38
  go_wp2_with fail
  refine wp_loop_rounds 1 ?_
  rw [rounds_succ]
  go_wp2_with fail
  refine (next_end cb a n c x aE _ hn HC.out hx HE.out.gE).mono ?_
  rintro e w1 ⟨rfl, b1⟩
  have z1 := b1.size
  have HB1 := hid b1
  clear b1
  go_wp2_with fail
  go_ret2
  refine ⟨_, rfl, z1, ⟨by simp, by simp, by simp⟩, HB1.out.alloc z1 _⟩

theorem and127b (z : Nat) (h : z < 256) : bits BinOp.and IntKind.u8 (z : Int) 127 = ((z % 128 : Nat) : Int) := by
  have := u8_and_nat z 127 (by omega) (by omega)
  rw [show (127 : Nat) = 2 ^ 7 - 1 from rfl, Nat.and_two_pow_sub_one_eq_mod] at this
  exact this
theorem or_add (x y j : Nat) (hx : x < 128 ^ j) (h : x + y * 128 ^ j < 18446744073709551616) : bits BinOp.or IntKind.u64 (x : Int) ((y * 128 ^ j : Nat) : Int) = ((x + y * 128 ^ j : Nat) : Int) := by
  have e := u64_or_nat x (y * 128 ^ j) (by omega) (by omega)
  have e2 : x ||| (y * 128 ^ j) = x + y * 128 ^ j := by
    have e128 : 128 ^ j = 2 ^ (7 * j) := by rw [Nat.pow_mul]
    rw [e128] at hx ⊢
    have := Nat.two_pow_add_eq_or_of_lt (i := 7 * j) (b := x) hx y
    rw [Nat.or_comm, Nat.mul_comm y]; omega
  rw [e2] at e
  exact e
end Go.Proofs.YthkppnmnjboiaaaDoor
