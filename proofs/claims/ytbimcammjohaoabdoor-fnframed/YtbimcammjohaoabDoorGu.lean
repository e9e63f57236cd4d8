import Derived.Test.YtbimcammjohaoabDoorWv
import Derived.Test.YtbimcammjohaoabDoorByt
import Derived.Deep.RegionHeld3
import Derived.OwnWalk
namespace Go.Proofs.YtbimcammjohaoabDoor
open Go.ChangeShapes Go.WideShapes Go.ChangeAt Go.RowKit
set_option linter.unusedVariables false
set_option linter.unusedSimpArgs false

theorem keepS {wr w1 w2 : World} (h1 : Below wr.heap.size wr w1) (b2 : Below w1.heap.size w1 w2) : Below wr.heap.size wr w2 := h1.trans (b2.mono h1.size)

theorem take1 {P : Program} {ops : Array Oper} {Q : Exit → Act → World → Prop} {md : Region.Mode} {S : World → Prop} {i : Nat} {d : Option Tmp} {v : Value} {fuel : Nat} {listed : Array Bool} {a : Act} {w : World}
    (hd : ops[i]?.map (fun o => o.dst) = some d) (hs : Region.noSelect ops = true) (hf : Region.free md ops listed i = true) (hr : (Region.ready md ops listed).contains i = true)
    (hQ : ∀ c a w, Q (.panic c) (a.put d v) w → Q (.panic c) a w) (hy : ∀ o, ops[i]? = some o → YieldsIf P ops S o v a) (hS : S w)
    (h : wpAnyH P md ops Q S fuel (listed.setIfInBounds i true) (a.put d v) w) : wpAnyH P md ops Q S (fuel + 1) listed a w := by
  obtain ⟨o, ho, rfl⟩ := Option.map_eq_some_iff.1 hd
  exact wpAnyH_take ho hs hf hr hQ (hy o ho) hS h

theorem call1 {P : Program} {ops : Array Oper} {Q : Exit → Act → World → Prop} {md : Region.Mode} {S : World → Prop} {i : Nat} {d : Option Tmp} {fuel : Nat} {listed : Array Bool} {a : Act} {w : World}
    (hd : ops[i]?.map (fun o => o.dst) = some d) (hr : Region.ready md ops listed = [i])
    (h : ∀ o, ops[i]? = some o → o.dst = d → ∀ K' : Act → World → Prop, Shut (∀ a w, S w → (S w → wpAnyH P md ops Q S fuel (listed.setIfInBounds i true) a w) → K' a w) → if Region.wanted o (yielded ops a.tmps) = true then Oper.wp P o a w K' Q else K' (a.put o.dst undef) w) :
    wpAnyH P md ops Q S (fuel + 1) listed a w := by
  obtain ⟨o, ho, hod⟩ := Option.map_eq_some_iff.1 hd
  exact wpAnyH_ready hr (by simp) (AllReadyH.cons ho (h o ho hod) AllReadyH.nil)

theorem wrapIn (x : Int) (h0 : -9223372036854775808 ≤ x) (h1 : x ≤ 9223372036854775807) : IntKind.i64.wrap x = x := by
  rw [IntKind.wrap_i64]; omega

def sumF (f : Nat → Int) (p : Nat) : Nat → Nat
  | 0 => 0
  | k + 1 => sumF f p k + (f (p + k) % 128).toNat * 128 ^ k
def Cnt (f : Nat → Int) (n p m : Nat) : Prop := m ≤ 9 ∧ (∀ k, k < m → p + k < n ∧ 128 ≤ f (p + k)) ∧ (p + m < n → m < 9 → f (p + m) < 128)
theorem cnt_ex (f : Nat → Int) (n p : Nat) : ∃ m, Cnt f n p m := by
  have key : ∀ d m, m + d = 9 → (∀ k, k < m → p + k < n ∧ 128 ≤ f (p + k)) → ∃ m', Cnt f n p m' := by
    intro d
    induction d with
    | zero => intro m hm h; exact ⟨m, by omega, h, fun _ h9 => by omega⟩
    | succ d ih =>
      intro m hm h
      by_cases hc : p + m < n ∧ 128 ≤ f (p + m)
      · exact ih (m + 1) (by omega) (fun k hk => by
          by_cases h1 : k = m
          · subst h1; exact hc
          · exact h k (by omega))
      · exact ⟨m, by omega, h, fun h1 _ => by omega⟩
  exact key 9 0 rfl (fun k hk => by omega)
def guC (f : Nat → Int) (n p m : Nat) : Nat := if n ≤ p + m then 1 else if m = 9 ∧ 1 < f (p + m) then 2 else if 0 < m ∧ f (p + m) = 0 then 3 else 0
def guV (f : Nat → Int) (n p m : Nat) : Nat := if guC f n p m = 0 then sumF f p (m + 1) else 0
def guA (f : Nat → Int) (n p m : Nat) : Nat := if guC f n p m = 0 then p + m + 1 else p
theorem sumF_lt {f : Nat → Int} (hf : Byt f) (p : Nat) : ∀ k, sumF f p k < 128 ^ k
  | 0 => by simp [sumF]
  | k + 1 => by
    have h1 := sumF_lt hf p k
    have h2 : (f (p + k) % 128).toNat ≤ 127 := by have := hf (p + k); omega
    have h3 : (f (p + k) % 128).toNat * 128 ^ k ≤ 127 * 128 ^ k := Nat.mul_le_mul_right _ h2
    show sumF f p k + _ < _
    rw [Nat.pow_succ]; omega
theorem pow9 {k : Nat} (h : k ≤ 9) : 128 ^ k ≤ 9223372036854775808 := by
  have := Nat.pow_le_pow_right (n := 128) (by omega) h
  simpa using this

theorem sumF_64 {f : Nat → Int} (hf : Byt f) (p m : Nat) (hm : m ≤ 9) (h9 : m = 9 → f (p + m) ≤ 1) : ∀ k, k ≤ m + 1 → sumF f p k < 18446744073709551616 := by
  intro k hk
  by_cases h : k ≤ 9
  · have := sumF_lt hf p k; have := pow9 h; omega
  · obtain rfl : k = 10 := by omega
    obtain rfl : m = 9 := by omega
    have h1 := sumF_lt hf p 9
    have h2 := h9 rfl
    have h3 := hf (p + 9)
    have h4 : (f (p + 9) % 128).toNat ≤ 1 := by omega
    have h5 := pow9 (k := 9) (by omega)
    show sumF f p 9 + (f (p + 9) % 128).toNat * 128 ^ 9 < _
    have h6 : (f (p + 9) % 128).toNat * 128 ^ 9 ≤ 1 * 128 ^ 9 := Nat.mul_le_mul_right _ h4
    omega

theorem retG {a b c a' b' c' : Int} (h1 : a = a') (h2 : b = b') (h3 : c = c') : Ending.returned (.tuple #[.int .u64 a, .int .i64 b, .int .i64 c]) = .returned (.tuple #[.int .u64 a', .int .i64 b', .int .i64 c']) := by rw [h1, h2, h3]

end Go.Proofs.YtbimcammjohaoabDoor
