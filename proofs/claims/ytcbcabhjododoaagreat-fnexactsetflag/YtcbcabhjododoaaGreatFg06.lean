import Derived.Test.YtcbcabhjododoaaGreatFg01
import Derived.Deep.Slices
import Derived.Deep.SlicePairs
import Derived.Deep.Strs
import Derived.Lib.SmallJoins
import Derived.Test.YtcbcabhjododoaaGreatFg04
set_option linter.unusedVariables false
set_option linter.unusedSimpArgs false
set_option maxRecDepth 100000
set_option maxHeartbeats 40000000
namespace Go.Proofs.YtcbcabhjododoaaGreat
open Go.ChangeShapes Go.WideShapes Go.ChangeAt Go.RowKit Go.Deep
theorem list3 {α : Type} {l : List α} (h : l.length = 3) : ∃ x y z, l = [x, y, z] := by
 match l, h with
 | [x, y, z], _ => exact ⟨x, y, z, rfl⟩
instance : Inhabited Lf := ⟨⟨[], false, 0, 0, ByteArray.empty⟩⟩
instance : Inhabited ByteArray := ⟨ByteArray.empty⟩
theorem addr_plain {W : World} {a : Addr} {v : Value} (h : W.cell? a = some v) : ∃ b off, a = ⟨b, off, none⟩ ∧ b < W.heap.size := by
 obtain ⟨b, off, sp⟩ := a
 have hsp : sp = none := by simpa [Addr.add] using World.cell?_spot h
 subst hsp
 exact ⟨b, off, rfl, block_lt_of_cell h⟩
theorem addr_add0 (a : Addr) : a.add 0 = a := rfl
theorem addr_addP (b off j : Nat) : (⟨b, off, none⟩ : Addr).add j = ⟨b, off + j, none⟩ := by
 by_cases hj : j = 0
 ·subst hj; rfl
 ·simp [Addr.add, hj]
theorem openStrs {H : Type} {enc : TypeId × Value → H} {W : World} {base fuel : Nat} {spare : Nat → Bool} {held : Bool} {cs : List Value} {x : DataW H × List MemPlace}
  (h : DataW.trod enc Tryz.prog W base spare held fuel 28 cs = some x) : ∃ a p c, cs = [.slice a p.length c] ∧ SSeg W a p ∧ PBig p := by
 rcases open_slice1 Tryz.underlying28 (by kernel_rfl) h with ⟨hcs, _⟩ | ⟨a, len, cap, m, k, V, D, Pl, hcs, hb, hl, hm, hmm, _, hx⟩
 ·exact ⟨none, [], 0, hcs, .inl rfl, by simp, fun i => by rw [gS_far (by simp)]; simp⟩
 ·have hlm : len ≤ m := by rw [hmm]; split <;> omega
  have each : ∀ i, i < m → ∃ s : ByteArray, W.cell? (a.add i) = some (.string s) ∧ s.size ≤ maxLen := by
   intro i hi
   obtain ⟨h1, h2⟩ := hx i hi
   obtain ⟨s, e, _, hs⟩ := DataW.trod_string Tryz.underlying9 h2
   simp at e
   exact ⟨s, by rw [h1, e], hs⟩
  obtain ⟨q, hq⟩ := choose_lt each
  have hg : ∀ i, i < len → gS ((List.range len).map q) i = q i := fun i hi => by simp [gS, List.getD, hi]
  refine ⟨some a, (List.range len).map q, cap, by simpa using hcs, ?_, ⟨by simp; unfold maxLen at hm; omega, fun i => ?_⟩⟩
  ·by_cases h0 : len = 0
   ·exact .inl (by simp [h0])
   ·have c0 := (hq 0 (by omega)).1
    obtain ⟨b, off, rfl, hlt⟩ := addr_plain (a := a) c0
    refine .inr ⟨b, off, rfl, hlt, fun i hi => ?_⟩
    have hi' : i < len := by simpa using hi
    rw [hg i hi', ← addr_addP]
    exact (hq i (by omega)).1
  ·by_cases hi : i < len
   ·rw [hg i hi]; have := (hq i (by omega)).2; unfold maxLen at this; omega
   ·rw [gS_far (by simp; omega)]; simp
def LfI (x : Lf) : Prop := (Lit.int .i64 x.r).wf = true ∧ (Lit.int .i64 x.q).wf = true
theorem list5 {α : Type} {l : List α} (h : l.length = 5) : ∃ a b c d e, l = [a, b, c, d, e] := by
 match l, h with
 | [a, b, c, d, e], _ => exact ⟨a, b, c, d, e, rfl⟩
theorem openLeaf {H : Type} {enc : TypeId × Value → H} {W : World} {base fuel : Nat} {spare : Nat → Bool} {held : Bool} {cs : List Value} {y : DataW H × List MemPlace} (hl : cs.length = 5)
  (h : DataW.trod enc Tryz.prog W base spare held fuel 85 cs = some y) : ∃ (x : Lf) (a : Option Addr) (c : Nat), cs = [.slice a x.p.length c, .bool x.fl, .int .i64 x.r, .int .i64 x.q, .string x.v] ∧ SSeg W a x.p ∧ LfBig x ∧ LfI x := by
 obtain ⟨v0, v1, v2, v3, v4, rfl⟩ := list5 hl
 obtain ⟨y0, y1, y2, y3, n, _, _, g0, g1, g2, g3⟩ := Go.Joins.trod_struct4 Tryz.underlying85 h
 have e1 : Tryz.prog.cellsOf 28 = 1 := by kernel_rfl
 have e2 : Tryz.prog.cellsOf 4 = 1 := by kernel_rfl
 have e3 : Tryz.prog.cellsOf 83 = 2 := by kernel_rfl
 have e4 : Tryz.prog.cellsOf 9 = 1 := by kernel_rfl
 have ei : Tryz.prog.cellsOf 3 = 1 := by kernel_rfl
 simp [e1, e2, e3, e4] at g0 g1 g2 g3
 obtain ⟨a, p, c, hp, hs, hbig⟩ := openStrs g0
 obtain ⟨fl, hfl, _⟩ := DataW.trod_bool Tryz.underlying4 g1
 obtain ⟨z0, z1, k, _, _, d0, d1⟩ := trod_struct2 Tryz.underlying83 g2
 simp [ei] at d0 d1
 obtain ⟨r, hr, _, wf0⟩ := DataW.trod_int Tryz.underlying3 d0
 obtain ⟨q, hq, _, wf1⟩ := DataW.trod_int Tryz.underlying3 d1
 obtain ⟨s, hsv, _, hss⟩ := DataW.trod_string Tryz.underlying9 g3
 simp at hp hfl hr hq hsv
 subst hp hfl hr hq hsv
 exact ⟨⟨p, fl, r, q, s⟩, a, c, rfl, hs, ⟨hbig, by unfold maxLen at hss; show s.size ≤ _; omega⟩, wf0, wf1⟩
theorem openLeaves {H : Type} {enc : TypeId × Value → H} {W : World} {base fuel : Nat} {spare : Nat → Bool} {held : Bool} {cs : List Value} {y : DataW H × List MemPlace}
  (h : DataW.trod enc Tryz.prog W base spare held fuel 22 cs = some y) : ∃ a l c, cs = [.slice a l.length c] ∧ l.length ≤ 9223372036854775807 ∧ LSeg W a l ∧ (∀ i, LfBig (gL l i)) ∧ ∀ i, LfI (gL l i) := by
 have far : ∀ (l : List Lf) (i : Nat), l.length ≤ i → gL l i = ⟨[], false, 0, 0, ByteArray.empty⟩ := fun l i hi => by simp [gL, List.getD, List.getElem?_eq_none hi]
 have b0 : LfBig ⟨[], false, 0, 0, ByteArray.empty⟩ := ⟨⟨by simp, fun i => by rw [gS_far (by simp)]; simp⟩, by simp⟩
 have i0 : LfI ⟨[], false, 0, 0, ByteArray.empty⟩ := ⟨by decide, by decide⟩
 rcases open_slice Tryz.underlying22 h with ⟨hcs, _⟩ | ⟨a, len, cap, m, k, D, Pl, hcs, hb, hl, hm, hmm, _, hx⟩
 ·exact ⟨none, [], 0, hcs, by simp, .inl rfl, fun i => by rw [far _ _ (by simp)]; exact b0, fun i => by rw [far _ _ (by simp)]; exact i0⟩
 ·have hlm : len ≤ m := by rw [hmm]; split <;> omega
  have e5 : Tryz.prog.cellsOf 85 = 5 := by kernel_rfl
  have each : ∀ i, i < m → ∃ x : Lf, (∃ pa pc, W.cell? (a.add (i * 5)) = some (.slice pa x.p.length pc) ∧ SSeg W pa x.p ∧ W.cell? (a.add (i * 5 + 1)) = some (.bool x.fl) ∧ W.cell? (a.add (i * 5 + 2)) = some (.int .i64 x.r) ∧ W.cell? (a.add (i * 5 + 3)) = some (.int .i64 x.q) ∧ W.cell? (a.add (i * 5 + 4)) = some (.string x.v)) ∧ LfBig x ∧ LfI x := by
   intro i hi
   obtain ⟨cs', h1, h2⟩ := hx i hi
   rw [e5] at h1
   obtain ⟨_, hlen, hcell⟩ := World.cells?_some h1
   obtain ⟨x, pa, pc, rfl, hs, hbig, hi64⟩ := openLeaf hlen h2
   have c0 := hcell 0 (by omega)
   have c1 := hcell 1 (by omega)
   have c2 := hcell 2 (by omega)
   have c3 := hcell 3 (by omega)
   have c4 := hcell 4 (by omega)
   rw [add_add] at c0 c1 c2 c3 c4
   exact ⟨x, ⟨pa, pc, by simpa using c0, hs, by simpa using c1, by simpa using c2, by simpa using c3, by simpa using c4⟩, hbig, hi64⟩
  obtain ⟨q, hq⟩ := choose_lt each
  have hg : ∀ i, i < len → gL ((List.range len).map q) i = q i := fun i hi => by simp [gL, List.getD, hi]
  refine ⟨some a, (List.range len).map q, cap, by simpa using hcs, by simp; unfold maxLen at hm; omega, ?_, fun i => ?_, fun i => ?_⟩
  ·by_cases h0 : len = 0
   ·exact .inl (by simp [h0])
   ·obtain ⟨pa, pc, c0, _⟩ := (hq 0 (by omega)).1
    obtain ⟨b, off, rfl, hlt⟩ := addr_plain (a := a) (by simpa [addr_add0] using c0)
    refine .inr ⟨b, off, rfl, hlt, fun i hi => ?_⟩
    have hi' : i < len := by simpa using hi
    obtain ⟨pa, pc, c0, s, c1, c2, c3, c4⟩ := (hq i (by omega)).1
    rw [addr_addP] at c0 c1 c2 c3 c4
    rw [hg i hi']
    exact ⟨pa, pc, c0, s, by simpa [Nat.add_assoc] using c1, by simpa [Nat.add_assoc] using c2, by simpa [Nat.add_assoc] using c3, by simpa [Nat.add_assoc] using c4⟩
  ·by_cases hi : i < len
   ·rw [hg i hi]; exact (hq i (by omega)).2.1
   ·rw [far _ _ (by simp; omega)]; exact b0
  ·by_cases hi : i < len
   ·rw [hg i hi]; exact (hq i (by omega)).2.2
   ·rw [far _ _ (by simp; omega)]; exact i0
theorem openRunsT {H : Type} {enc : TypeId × Value → H} {W : World} {base fuel : Nat} {spare : Nat → Bool} {held : Bool} {v0 : Value} {y0 : DataW H × List MemPlace}
  (h0 : DataW.trod enc Tryz.prog W base spare held fuel 23 [v0] = some y0) : ∃ a n c R F T, v0 = .slice a n c ∧ n ≤ 9223372036854775807 ∧ RSeg W a n R F T ∧ I64 R ∧ I64 F ∧ I64 T := by
 have e3 : Tryz.prog.cellsOf 118 = 3 := by kernel_rfl
 have ei : Tryz.prog.cellsOf 3 = 1 := by kernel_rfl
 rcases open_slice Tryz.underlying23 h0 with ⟨hcs, _⟩ | ⟨a, len, cap, m, k, D, Pl, hcs, hb, hl, hm, hmm, _, hx⟩
 ·simp at hcs
  subst hcs
  exact ⟨none, 0, 0, fun _ => 0, fun _ => 0, fun _ => 0, rfl, by omega, .inl rfl, fun _ => by simp, fun _ => by simp, fun _ => by simp⟩
 ·simp at hcs
  subst hcs
  have hlm : len ≤ m := by rw [hmm]; split <;> omega
  have each : ∀ i, i < m → ∃ q : Int × Int × Int, W.cell? (a.add (i * 3)) = some (.int .i64 q.1) ∧ W.cell? (a.add (i * 3 + 1)) = some (.int .i64 q.2.1) ∧ W.cell? (a.add (i * 3 + 2)) = some (.int .i64 q.2.2) ∧
    (-9223372036854775808 ≤ q.1 ∧ q.1 ≤ 9223372036854775807) ∧ (-9223372036854775808 ≤ q.2.1 ∧ q.2.1 ≤ 9223372036854775807) ∧ (-9223372036854775808 ≤ q.2.2 ∧ q.2.2 ≤ 9223372036854775807) := by
   intro i hi
   obtain ⟨cs', h1, h2⟩ := hx i hi
   rw [e3] at h1
   obtain ⟨_, hlen, hcell⟩ := World.cells?_some h1
   obtain ⟨x0, x1, x2, rfl⟩ := list3 hlen
   obtain ⟨y0, y1, y2, k', _, _, g0, g1, g2⟩ := trod_struct3 Tryz.underlying118 h2
   simp [ei] at g0 g1 g2
   obtain ⟨z0, q0, _, wf0⟩ := DataW.trod_int Tryz.underlying3 g0
   obtain ⟨z1, q1, _, wf1⟩ := DataW.trod_int Tryz.underlying3 g1
   obtain ⟨z2, q2, _, wf2⟩ := DataW.trod_int Tryz.underlying3 g2
   simp at q0 q1 q2
   subst q0 q1 q2
   have c0 := hcell 0 (by omega)
   have c1 := hcell 1 (by omega)
   have c2 := hcell 2 (by omega)
   rw [add_add] at c0 c1 c2
   exact ⟨(z0, z1, z2), by simpa using c0, by simpa using c1, by simpa using c2, bounds_i64 wf0, bounds_i64 wf1, bounds_i64 wf2⟩
  obtain ⟨q, hq⟩ := choose_lt each
  refine ⟨some a, len, cap, fun i => if i < m then (q i).1 else 0, fun i => if i < m then (q i).2.1 else 0, fun i => if i < m then (q i).2.2 else 0, rfl, by unfold maxLen at hm; omega, ?_, ?_, ?_, ?_⟩
  ·by_cases h0 : len = 0
   ·exact .inl h0
   ·have c0 := (hq 0 (by omega)).1
    obtain ⟨b, off, sp⟩ := a
    have hsp : sp = none := by simpa [Addr.add] using World.cell?_spot c0
    subst hsp
    have hadd : ∀ j, (⟨b, off, none⟩ : Addr).add j = ⟨b, off + j, none⟩ := by
     intro j
     by_cases hj : j = 0
     ·subst hj; rfl
     ·simp [Addr.add, hj]
    refine .inr ⟨b, off, rfl, block_lt_of_cell c0, fun i hi => ?_⟩
    have hi' : i < m := by omega
    obtain ⟨c0, c1, c2, _⟩ := hq i hi'
    rw [hadd] at c0 c1 c2
    simp only [hi', if_true]
    exact ⟨c0, by simpa [Nat.add_assoc] using c1, by simpa [Nat.add_assoc] using c2⟩
  ·intro i; by_cases hi : i < m
   ·simp only [hi, if_true]; exact (hq i hi).2.2.2.1
   ·simp only [hi, if_false]; omega
  ·intro i; by_cases hi : i < m
   ·simp only [hi, if_true]; exact (hq i hi).2.2.2.2.1
   ·simp only [hi, if_false]; omega
  ·intro i; by_cases hi : i < m
   ·simp only [hi, if_true]; exact (hq i hi).2.2.2.2.2
   ·simp only [hi, if_false]; omega
theorem array2' {α : Type} {cs : Array α} (h : cs.size = 2) : ∃ c0 c1, cs = #[c0, c1] := by
 obtain ⟨l⟩ := cs
 match l, h with
 | [c0, c1], _ => exact ⟨c0, c1, rfl⟩
theorem openState {H : Type} {enc : TypeId × Value → H} {W : World} {r : Reach} {b0 base : Nat} {spare : Nat → Bool} {held : Bool} {v : Value} {d : DataW H} {p : List MemPlace}
  (hval : Value.okWide Tryz.prog W r b0 27 v) (h : DataW.Trod enc Tryz.prog W base spare held 27 v d p) :
  ∃ a c l x n e R F T, v = .agg #[.slice a l.length c, .slice x n e] ∧ l.length ≤ 9223372036854775807 ∧ LSeg W a l ∧ (∀ i, LfBig (gL l i)) ∧ (∀ i, LfI (gL l i)) ∧ n ≤ 9223372036854775807 ∧ RSeg W x n R F T ∧ I64 R ∧ I64 F ∧ I64 T := by
 obtain ⟨cs, rfl, hsz⟩ := okWide_struct Tryz.underlying27 hval
 obtain ⟨v0, v1, rfl⟩ := array2' (hsz.trans (show Tryz.prog.cellsOf 27 = 2 by kernel_rfl))
 obtain ⟨fuel, hf⟩ := h
 obtain ⟨y0, y1, n, _, _, h0, h1⟩ := trod_struct2 Tryz.underlying27 hf
 have e1 : Tryz.prog.cellsOf 22 = 1 := by kernel_rfl
 have e2 : Tryz.prog.cellsOf 25 = 1 := by kernel_rfl
 have e3 : Tryz.prog.cellsOf 23 = 1 := by kernel_rfl
 simp [Value.cells, e1, e2] at h0 h1
 obtain ⟨y2, n2, _, _, h2⟩ := trod_struct1 Tryz.underlying25 h1
 simp [e3] at h2
 obtain ⟨a, l, c, hl, q1, q2, q3, q4⟩ := openLeaves h0
 obtain ⟨x, m, e, R, F, T, hr, r1, r2, r3, r4, r5⟩ := openRunsT h2
 simp at hl
 subst hl hr
 exact ⟨a, c, l, x, m, e, R, F, T, rfl, q1, q2, q3, q4, r1, r2, r3, r4, r5⟩
end Go.Proofs.YtcbcabhjododoaaGreat
namespace Go.Proofs.YtcbcabhjododoaaGreat
open Go.ChangeShapes Go.WideShapes Go.ChangeAt Go.RowKit
def ltS (s t : ByteArray) : Bool := Op.bytesLess s.toList t.toList
def eqS (s t : ByteArray) : Bool := s.toList == t.toList
def cmpS (s t : ByteArray) : Int := if ltS s t = true then -1 else if eqS s t = true then 0 else 1
def cmpP : List ByteArray → List ByteArray → Int
 | [], [] => 0
 | [], _ :: _ => -1
 | _ :: _, [] => 1
 | s :: p, t :: q => if cmpS s t = 0 then cmpP p q else cmpS s t
theorem SSeg.tail {w : World} {b o : Nat} {s : ByteArray} {p : List ByteArray} (hb : b < w.heap.size) (h : ∀ i, i < (s :: p).length → w.cell? ⟨b, o + i, none⟩ = some (.string (gS (s :: p) i))) : SSeg w (some ⟨b, o + 1, none⟩) p :=
 .inr ⟨b, o + 1, rfl, hb, fun i hi => by
  have e := h (i + 1) (by simp; omega)
  rw [show o + (i + 1) = o + 1 + i by omega] at e
  exact e⟩
theorem SSeg.drews {w : World} {a : Option Addr} {p : List ByteArray} (h : SSeg w a p) {k : Nat} : SSeg (w.drewN k) a p := h
theorem ret_i {x y : Int} (h : x = y) : Ending.returned (.int .i64 x) = .returned (.int .i64 y) := by rw [h]
theorem cmpSpec : ∀ (p q : List ByteArray) (a b : Option Addr) (c d : Nat) (w : World), p.length ≤ c → q.length ≤ d → c ≤ 9223372036854775807 → d ≤ 9223372036854775807 → SSeg w a p → SSeg w b q →
  Calls Tryz.prog 46 #[.slice a p.length c, .slice b q.length d] w fun e w' => e = .returned (.int .i64 (cmpP p q)) ∧ ∃ k, w' = w.drewN k
 | [], [], a, b, c, d, w, _, _, _, _, _, _ => by
  go_enter Tryz.func46, Tryz.ntmps46
  go_wp2_with fail
  go_ret
  exact ⟨rfl, 0, rfl⟩
 | [], t :: q, a, b, c, d, w, _, _, _, _, _, _ => by
  have d0 : (((t :: q).length : Int) == 0) = false := by simp; omega
  go_enter Tryz.func46, Tryz.ntmps46
  go_wp2_with fail
  go_ret
  exact ⟨rfl, 0, rfl⟩
 | s :: p, [], a, b, c, d, w, _, _, _, _, _, _ => by
  have d0 : (((s :: p).length : Int) == 0) = false := by simp; omega
  go_enter Tryz.func46, Tryz.ntmps46
  go_wp2_with fail
  go_ret
  exact ⟨rfl, 0, rfl⟩
 | s :: p, t :: q, a, b, c, d, w, hc, hd, hc', hd', h, h' => by
  obtain ⟨n, hn⟩ : ∃ n, (s :: p).length = n := ⟨_, rfl⟩
  obtain ⟨m, hm⟩ : ∃ m, (t :: q).length = m := ⟨_, rfl⟩
  rcases h with h | ⟨b1, o1, rfl, hb1, h⟩
  ·simp at h
  rcases h' with h' | ⟨b2, o2, rfl, hb2, h'⟩
  ·simp at h'
  have x0 : w.cell? ⟨b1, o1, none⟩ = some (.string s) := by simpa [gS] using h 0 (by simp)
  have y0 : w.cell? ⟨b2, o2, none⟩ = some (.string t) := by simpa [gS] using h' 0 (by simp)
  have n1 : n = p.length + 1 := by rw [← hn]; simp
  have m1 : m = q.length + 1 := by rw [← hm]; simp
  have HT1 := hid (SSeg.tail hb1 h)
  have HT2 := hid (SSeg.tail hb2 h')
  have d0 : ((n : Int) == 0) = false := by simp; omega
  have d1 : ((m : Int) == 0) = false := by simp; omega
  have HN := hid n1
  have HM := hid m1
  have hn0 : (0 : Int) < (n : Int) := by omega
  have hm0 : (0 : Int) < (m : Int) := by omega
  have hcn : n ≤ c := by rw [← hn]; exact hc
  have hdm : m ≤ d := by rw [← hm]; exact hd
  rw [hn, hm]
  clear n1 m1 hn hm hc hd h h'
  by_cases hl : Op.bytesLess s.toList t.toList = true
  ·have HC : Hid (cmpP (s :: p) (t :: q) = -1) := hid (by simp [cmpP, cmpS, ltS, hl])
   clear HT1 HT2
   go_enter Tryz.func46, Tryz.ntmps46
   go_wp2_with fail
   go_quiet (fail)
   go_wp2_with fail
   go_ret
   exact ⟨ret_i HC.out.symm, _, rfl⟩
  ·have hl : Op.bytesLess s.toList t.toList = false := by simpa using hl
   by_cases he : (s.toList == t.toList) = true
   ·have HC : Hid (cmpP (s :: p) (t :: q) = cmpP p q) := hid (by simp only [cmpP, cmpS, ltS, eqS, hl, he]; simp)
    have HR : Hid (∀ A B W, SSeg W A p → SSeg W B q → Calls Tryz.prog 46 #[.slice A (n - 1) (c - 1), .slice B (m - 1) (d - 1)] W fun e w' => e = .returned (.int .i64 (cmpP p q)) ∧ ∃ m, w' = W.drewN m) := hid (fun A B W hA hB => by
     have e1 := HN.out
     have e2 := HM.out
     rw [show n - 1 = p.length by omega, show m - 1 = q.length by omega]
     exact cmpSpec p q A B (c - 1) (d - 1) _ (by omega) (by omega) (by omega) (by omega) hA hB)
    have hn1 : (1 : Int) ≤ (n : Int) := by omega
    have hm1 : (1 : Int) ≤ (m : Int) := by omega
    go_enter Tryz.func46, Tryz.ntmps46
    go_wp2_with fail
    go_quiet (fail)
    obtain ⟨W1, hW1⟩ : ∃ W1, w.drewN nq = W1 := ⟨_, rfl⟩
    rw [hW1]
    have x1 : W1.cell? ⟨b1, o1, none⟩ = some (.string s) := by rw [← hW1]; exact x0
    have y1 : W1.cell? ⟨b2, o2, none⟩ = some (.string t) := by rw [← hW1]; exact y0
    have HW1 := hid hW1
    clear hW1
    go_wp2_with fail
    go_quiet (fail)
    obtain ⟨W2, hW2⟩ : ∃ W2, W1.drewN nq = W2 := ⟨_, rfl⟩
    rw [hW2]
    have HW : Hid (∃ k, W2 = w.drewN k) := hid ⟨_, by rw [← hW2, ← HW1.out, World.drewN_drewN]⟩
    clear hW2 HW1 x1 y1
    go_wp2_with fail
    by_cases hc1 : 1 < c
    ·skip
     by_cases hd1 : 1 < d
     ·skip
      have HA : Hid (SSeg W2 (some ⟨b1, o1 + 1, none⟩) p) := hid (by obtain ⟨k, e⟩ := HW.out; rw [e]; exact HT1.out)
      have HB : Hid (SSeg W2 (some ⟨b2, o2 + 1, none⟩) q) := hid (by obtain ⟨k, e⟩ := HW.out; rw [e]; exact HT2.out)
      go_quiet ((go_at_call 46; exact Calls.quiet_of (HR.out _ _ _ HA.out.drews HB.out.drews)))
      clear HA HB HR
      go_wp2_with fail
      go_ret
      obtain ⟨k, e⟩ := HW.out
      exact ⟨ret_i HC.out.symm, _, by rw [e, World.drewN_drewN]⟩
     ·skip
      have HA : Hid (SSeg W2 (some ⟨b1, o1 + 1, none⟩) p) := hid (by obtain ⟨k, e⟩ := HW.out; rw [e]; exact HT1.out)
      have HB := hid (show SSeg W2 (some ⟨b2, o2, none⟩) q from .inl (by have := HM.out; omega))
      go_quiet ((go_at_call 46; exact Calls.quiet_of (HR.out _ _ _ HA.out.drews HB.out.drews)))
      clear HA HB HR
      go_wp2_with fail
      go_ret
      obtain ⟨k, e⟩ := HW.out
      exact ⟨ret_i HC.out.symm, _, by rw [e, World.drewN_drewN]⟩
    ·skip
     by_cases hd1 : 1 < d
     ·skip
      have HA := hid (show SSeg W2 (some ⟨b1, o1, none⟩) p from .inl (by have := HN.out; omega))
      have HB : Hid (SSeg W2 (some ⟨b2, o2 + 1, none⟩) q) := hid (by obtain ⟨k, e⟩ := HW.out; rw [e]; exact HT2.out)
      go_quiet ((go_at_call 46; exact Calls.quiet_of (HR.out _ _ _ HA.out.drews HB.out.drews)))
      clear HA HB HR
      go_wp2_with fail
      go_ret
      obtain ⟨k, e⟩ := HW.out
      exact ⟨ret_i HC.out.symm, _, by rw [e, World.drewN_drewN]⟩
     ·skip
      have HA := hid (show SSeg W2 (some ⟨b1, o1, none⟩) p from .inl (by have := HN.out; omega))
      have HB := hid (show SSeg W2 (some ⟨b2, o2, none⟩) q from .inl (by have := HM.out; omega))
      go_quiet ((go_at_call 46; exact Calls.quiet_of (HR.out _ _ _ HA.out.drews HB.out.drews)))
      clear HA HB HR
      go_wp2_with fail
      go_ret
      obtain ⟨k, e⟩ := HW.out
      exact ⟨ret_i HC.out.symm, _, by rw [e, World.drewN_drewN]⟩
   ·have he : (s.toList == t.toList) = false := by simpa using he
    have HC : Hid (cmpP (s :: p) (t :: q) = 1) := hid (by simp [cmpP, cmpS, ltS, eqS, hl, he])
    clear HT1 HT2
    go_enter Tryz.func46, Tryz.ntmps46
    go_wp2_with fail
    go_quiet (fail)
    go_wp2_with fail
    go_quiet (fail)
    go_wp2_with fail
    go_ret
    exact ⟨ret_i HC.out.symm, _, World.drewN_drewN _ _ _⟩
end Go.Proofs.YtcbcabhjododoaaGreat
