import Derived.Test.YtbimcammjohaoadGreatDoorMg15
import Derived.Test.YtbimcammjohaoadGreatDoorMg20
import Derived.Test.YtbimcammjohaoadGreatDoorMg03
import Derived.Test.YtbimcammjohaoadGreatDoorMg02
import Derived.Test.YtbimcammjohaoadGreatDoorMg01
import Derived.Deep.RegionHeld3
import Derived.OwnWalk
namespace Go.Proofs.YtbimcammjohaoadGreatDoor
open Go.ChangeShapes Go.WideShapes Go.ChangeAt Go.RowKit Go.Maps Go.Sort
set_option linter.unusedVariables false
set_option linter.unusedSimpArgs false

def putZ (R F T : Nat → Int) (n : Nat) : List Int := if ctxB R F T n then putB (Lk R F T n) else []
theorem putZ_len (R F T : Nat → Int) (n : Nat) : (putZ R F T n).length ≤ 1000000 := by
  unfold putZ
  split
  · rename_i h
    have hok := ctxB_iff.1 h
    rw [putB_eq]
    have h1 := (uvF_len 9 (KS (Lk R F T n) 8).length).1
    have h2 := bodyF_len (L := Lk R F T n) (fun r => Nat.le_trans (Lk_len R F T n r) hok.2) 8
    simp only [List.length_append]; omega
  · simp

theorem implPutA (a : Option Addr) (n c : Nat) (R F T : Nat → Int) (w : World) (hn : n ≤ 1048576) (h : RSeg w a n R F T) :
    Calls Tryz.prog 12 #[.agg #[.slice a n c]] w fun e w' => ∃ v, e = .returned (.tuple #[v, .bool (ctxB R F T n)]) ∧ Own w' w.heap.size v (putZ R F T n) ∧ Below w.heap.size w w' := by
  by_cases hok : ctxB R F T n = true
  · have := implPut a n c R F T w hn h hok
    unfold putZ; rw [hok]; exact this
  · have hok : ctxB R F T n = false := by simpa using hok
    have HE : Hid (putZ R F T n = []) := by show _ = _; unfold putZ; rw [hok]; rfl
    have B0 : Below w.heap.size w (w.alloc (.cells #[.slice a n c] 25)) := (Below.refl _ _).alloc (Nat.le_refl _) _
    have HC := hid (openC_no a n c R F T _ hn (h.below B0) hok)
    rw [hok]
    go_enter Tryz.func12, Tryz.ntmps12
    go_wp2_with fail
    refine HC.out.mono ?_
    rintro e w1 ⟨rfl, b1⟩
    have HB1 := hid (keepS B0 b1)
    clear b1 B0 hok h
    go_wp2_with fail
    go_ret2
    exact ⟨_, rfl, by rw [HE.out]; exact World.ownsRow_nil _ _ _ _, HB1.out⟩

theorem Own.any {w : World} {B : Nat} {v : Value} {zs : List Int} (h : Own w B v zs) : ∃ a cap, v = .slice a zs.length cap ∧ Seg w a zs.length (fun i => zs.getD i 0) := by
  by_cases hz : zs = []
  · subst hz
    obtain ⟨_, h2⟩ := h
    rcases h2 with ⟨rfl, _⟩ | ⟨g, cap, cur, rfl, _⟩
    · exact ⟨none, 0, rfl, .inl rfl⟩
    · exact ⟨_, cap, rfl, .inl rfl⟩
  · obtain ⟨g, cap, rfl, _, _, _, _, _, s⟩ := h.shape hz
    exact ⟨_, cap, rfl, s⟩

theorem grown_of {w w' : World} {B g : Nat} (hb : Below B w w') (hs : w.heap.size ≤ w'.heap.size) (h : ∀ b, b < w.heap.size → b ≠ g → w'.heap[b]? = w.heap[b]?) : w.grownBy w' (some g) :=
  ⟨hb.os, hb.tape, hb.output, hs, fun k hk hne => h k hk (fun e => hne (by rw [e]))⟩

theorem Own.gr {w w' : World} {B : Nat} {v : Value} {zs : List Int} {row : Option Nat} (h : Own w B v zs) (hg : w.grownBy w' row) (hne : ∀ g, v.ownBlock = Option.some g → Option.some g ≠ row) : Own w' B v zs :=
  World.ownsRow.kept h hg (by
    cases e : v.ownBlock with
    | none => exact .inl rfl
    | some g => exact .inr (hne g e))
end Go.Proofs.YtbimcammjohaoadGreatDoor

namespace Go.Proofs.YtbimcammjohaoadGreatDoor
open Go.ChangeShapes Go.WideShapes Go.ChangeAt Go.RowKit
set_option linter.unusedVariables false
set_option linter.unusedSimpArgs false

def sumF (f : Nat → Int) (p : Nat) : Nat → Nat
  | 0 => 0
  | k + 1 => sumF f p k + (f (p + k) % 128).toNat * 128 ^ k
def Cnt (f : Nat → Int) (n p m : Nat) : Prop := m ≤ 9 ∧ (∀ k, k < m → p + k < n ∧ 128 ≤ f (p + k)) ∧ (p + m < n → m < 9 → f (p + m) < 128)
theorem cnt_ex (f : Nat → Int) (n p : Nat) : ∃ m, Cnt f n p m := by
  have key : ∀ d m, m + d = 9 → (∀ k, k < m → p + k < n ∧ 128 ≤ f (p + k)) → ∃ m', Cnt f n p m' := by
    intro d
    induction d with
    | zero => intro m hm h; exact ⟨m, by omega, h, fun _ h9 => by omega⟩
    | succ d ih =>
      intro m hm h
      by_cases hc : p + m < n ∧ 128 ≤ f (p + m)
      · exact ih (m + 1) (by omega) (fun k hk => by
          by_cases h1 : k = m
          · subst h1; exact hc
          · exact h k (by omega))
      · exact ⟨m, by omega, h, fun h1 _ => by omega⟩
  exact key 9 0 rfl (fun k hk => by omega)
def guC (f : Nat → Int) (n p m : Nat) : Nat := if n ≤ p + m then 1 else if m = 9 ∧ 1 < f (p + m) then 2 else if 0 < m ∧ f (p + m) = 0 then 3 else 0
def guV (f : Nat → Int) (n p m : Nat) : Nat := if guC f n p m = 0 then sumF f p (m + 1) else 0
def guA (f : Nat → Int) (n p m : Nat) : Nat := if guC f n p m = 0 then p + m + 1 else p
theorem sumF_lt {f : Nat → Int} (hf : Byt f) (p : Nat) : ∀ k, sumF f p k < 128 ^ k
  | 0 => by simp [sumF]
  | k + 1 => by
    have h1 := sumF_lt hf p k
    have h2 : (f (p + k) % 128).toNat ≤ 127 := by have := hf (p + k); omega
    have h3 : (f (p + k) % 128).toNat * 128 ^ k ≤ 127 * 128 ^ k := Nat.mul_le_mul_right _ h2
    show sumF f p k + _ < _
    rw [Nat.pow_succ]; omega
theorem pow9 {k : Nat} (h : k ≤ 9) : 128 ^ k ≤ 9223372036854775808 := by
  have := Nat.pow_le_pow_right (n := 128) (by omega) h
  simpa using this

theorem sumF_64 {f : Nat → Int} (hf : Byt f) (p m : Nat) (hm : m ≤ 9) (h9 : m = 9 → f (p + m) ≤ 1) : ∀ k, k ≤ m + 1 → sumF f p k < 18446744073709551616 := by
  intro k hk
  by_cases h : k ≤ 9
  · have := sumF_lt hf p k; have := pow9 h; omega
  · obtain rfl : k = 10 := by omega
    obtain rfl : m = 9 := by omega
    have h1 := sumF_lt hf p 9
    have h2 := h9 rfl
    have h3 := hf (p + 9)
    have h4 : (f (p + 9) % 128).toNat ≤ 1 := by omega
    have h5 := pow9 (k := 9) (by omega)
    show sumF f p 9 + (f (p + 9) % 128).toNat * 128 ^ 9 < _
    have h6 : (f (p + 9) % 128).toNat * 128 ^ 9 ≤ 1 * 128 ^ 9 := Nat.mul_le_mul_right _ h4
    omega

theorem retG {a b c a' b' c' : Int} (h1 : a = a') (h2 : b = b') (h3 : c = c') : Ending.returned (.tuple #[.int .u64 a, .int .i64 b, .int .i64 c]) = .returned (.tuple #[.int .u64 a', .int .i64 b', .int .i64 c']) := by rw [h1, h2, h3]

end Go.Proofs.YtbimcammjohaoadGreatDoor
