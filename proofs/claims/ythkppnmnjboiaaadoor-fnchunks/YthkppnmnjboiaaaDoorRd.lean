import Derived.Test.YthkppnmnjboiaaaDoorGj
import Derived.Test.YthkppnmnjboiaaaDoorWv
namespace Go.Proofs.YthkppnmnjboiaaaDoor
open Go.ChangeShapes Go.WideShapes Go.ChangeAt Go.RowKit
set_option linter.unusedVariables false
set_option linter.unusedSimpArgs false

def Rd (w : World) (B rb : Nat) : Prop := ∃ (a : Option Addr) (n c : Nat) (f : Nat → Int) (x : Nat), Cur w rb a n c (x : Int) ∧ Seg w a n f ∧ Byt f ∧ n ≤ 1000 ∧ x ≤ n ∧ (0 < n → ∀ y, a = some y → y.block ≠ rb ∧ y.block < B) ∧ rb < B
theorem Rd.below {w w' : World} {B rb : Nat} (h : Rd w B rb) (hb : Below B w w') : Rd w' B rb := by
  obtain ⟨a, n, c, f, x, hc, hs, hf, hn, hx, hne, hB⟩ := h
  refine ⟨a, n, c, f, x, hc.below hb hB, ?_, hf, hn, hx, hne, hB⟩
  rcases hs with hs | ⟨b, off, e, hlt, hcell⟩
  · exact .inl hs
  · by_cases h0 : 0 < n
    · exact .inr ⟨b, off, e, Nat.lt_of_lt_of_le hlt hb.size, fun i hi => (hb.cell (p := ⟨b, off + i, none⟩) (show b < B from (hne h0 _ e).2)).trans (hcell i hi)⟩
    · exact .inl (by omega)
theorem Rd.lt {w : World} {B rb : Nat} (h : Rd w B rb) : rb < w.heap.size ∧ rb < B := by
  obtain ⟨a, n, c, f, x, hc, _, _, _, _, _, hB⟩ := h
  exact ⟨hc.lt, hB⟩

set_option maxRecDepth 100000 in
set_option maxHeartbeats 1000000 in
theorem rdNext (B rb : Nat) (w : World) (h : Rd w B rb) :
    Calls Tryd.prog 10 #[.pointer (some ⟨rb, 0, none⟩)] w fun e w' => ∃ k : Nat, k < 256 ∧ e = .returned (.int .i64 (k : Int)) ∧ Rd w' B rb ∧ w.grownBy w' (some rb) := by
  obtain ⟨a, n, c, f, x, hcur, hs, hf, hn, hx, hne, hBr⟩ := h
  have HC := hid hcur
  have HS := hid hs
  have HF := hid hf
  obtain ⟨k0, k1, k2⟩ := hcur
  by_cases hxn : x < n
  · rcases hs with hs | ⟨b, off, rfl, hb, hc⟩
    · omega
    obtain ⟨z, hz⟩ : ∃ z : Nat, f x = (z : Int) := ⟨(f x).toNat, by have := (hf x).1; omega⟩
    have hz8 : z < 256 := by have := (hf x).2; omega
    have hcx : w.cell? ⟨b, off + x, none⟩ = some (.int .u8 (z : Int)) := by rw [hc x hxn, hz]
    have hbr : b ≠ rb := (hne (by omega) _ rfl).1
    have hx0 : (0 : Int) ≤ (x : Int) := Int.natCast_nonneg _
    have hx1 : (x : Int) < (n : Int) := by omega
    have hwz : IntKind.i64.wrap (z : Int) = (z : Int) := wrapIn _ (by omega) (by omega)
    clear hz hc hf
    go_enter Tryd.func10, Tryd.ntmps10
    go_wp2_with fail
    go_quiet (fail)
    go_wp2_with fail
    go_quiet (fail)
    go_wp2_with fail
    go_ret
    refine ⟨z, hz8, rfl, ⟨_, n, c, f, x + 1, ?_, ?_, HF.out, hn, hxn, hne, hBr⟩, ?_⟩
    · first | exact HC.out.set _ | (simp; exact HC.out.set _)
    · rcases HS.out with h0 | ⟨b1, o1, e1, hb1, hc1⟩
      · exact .inl h0
      · have e2 := e1
        injection e1 with e1
        injection e1 with e1 _ _
        subst e1
        exact .inr ⟨_, o1, e2, by simpa [World.setCell] using hb1, fun i hi => by
          try simp only [World.drewN_drewN]
          rw [World.cell?_setCell_far _ _ _ _ (by simp; omega)]
          exact hc1 i hi⟩
    · first | exact grown_set (grown_drewN _ _ _) _ | (simp; exact grown_set (grown_drewN _ _ _) _)
  · have hd : decide ((x : Int) < (n : Int)) = false := by simp; omega
    go_enter Tryd.func10, Tryd.ntmps10
    go_wp2_with fail
    go_quiet (fail)
    go_wp2_with fail
    go_ret
    exact ⟨0, by omega, rfl, ⟨a, n, c, f, x, HC.out, HS.out, HF.out, hn, hx, hne, hBr⟩, grown_drewN _ _ _⟩

set_option maxRecDepth 100000 in
set_option maxHeartbeats 1000000 in
theorem rdOpen (a : Option Addr) (n c : Nat) (f : Nat → Int) (w : World) (hnc : n ≤ c) (hn : n ≤ 9223372036854775807) (h : Seg w a n f) (hf : Byt f) :
    Calls Tryd.prog 9 #[.slice a n c] w fun e w' => e = .returned (.pointer (some ⟨w.heap.size, 0, none⟩)) ∧ Rd w' (w.heap.size + 1) w.heap.size ∧ Below w.heap.size w w' := by
  have al := fun (o : Obj) => (Below.refl w.heap.size w).alloc (Nat.le_refl _) o
  have HA := hid al
  have HH := hid h
  have HF := hid hf
  clear al
  by_cases h1 : n ≤ 1000
  · clear h hf
    go_enter Tryd.func9, Tryd.ntmps9
    go_wp2_with fail
    go_ret
    refine ⟨rfl, ⟨a, n, c, f, 0, ⟨by simp, by simp, by simp⟩, HH.out.below (HA.out _), HF.out, h1, by omega, fun h0 y hy => ?_, by omega⟩, HA.out _⟩
    rcases HH.out with h2 | ⟨b, off, e, hb, _⟩
    · omega
    · rw [hy] at e; injection e with e; rw [e]; exact ⟨Nat.ne_of_lt hb, Nat.lt_succ_of_lt hb⟩
  · have h2 : 1000 < n := by omega
    rcases h with h | ⟨b, off, rfl, hb, hc⟩
    · omega
    clear hf hc
    go_enter Tryd.func9, Tryd.ntmps9
    go_wp2_with fail
    go_ret
    refine ⟨rfl, ⟨some ⟨b, off, none⟩, 1000, c, f, 0, ⟨by simp, by simp, by simp⟩, ?_, HF.out, by omega, by omega, fun h0 y hy => ?_, by omega⟩, HA.out _⟩
    · rcases (HH.out.below (HA.out _)) with h3 | ⟨b1, o1, e1, hb1, hc1⟩
      · omega
      · exact .inr ⟨b1, o1, e1, hb1, fun i hi => hc1 i (by omega)⟩
    · injection hy with hy; rw [← hy]; exact ⟨Nat.ne_of_lt hb, Nat.lt_succ_of_lt hb⟩

end Go.Proofs.YthkppnmnjboiaaaDoor
