import Derived.Test.YtcbcabhjododoaaGreatFg04
import Derived.Laws.BytesArg
import Derived.Laws.Concat
set_option linter.unusedVariables false
set_option linter.unusedSimpArgs false
set_option maxRecDepth 100000
set_option maxHeartbeats 40000000
namespace Go.Proofs.YtcbcabhjododoaaGreat
open Go.ChangeShapes Go.WideShapes Go.ChangeAt Go.RowKit
def digF : Nat → Nat → ByteArray → ByteArray
 | 0, _, s => s
 | n + 1, k, s => if k = 0 then s else digF n (k / 10) (strOfNums [48 + (k : Int) % 10] ++ s)
def mkT (k : Nat) : ByteArray := if k = 0 then ⟨#[109, 48]⟩ else ⟨#[109]⟩ ++ digF k k ByteArray.empty
theorem digF_zero {n : Nat} {s : ByteArray} : digF n 0 s = s := by cases n <;> simp [digF]
theorem digF_step {n k : Nat} {s : ByteArray} (hk : 0 < k) (hn : k ≤ n) : digF n k s = digF (n - 1) (k / 10) (strOfNums [48 + (k : Int) % 10] ++ s) := by
 obtain ⟨m, rfl⟩ : ∃ m, n = m + 1 := ⟨n - 1, by omega⟩
 simp only [digF, Nat.add_sub_cancel]; rw [if_neg (by omega)]
theorem markTextC (k : Nat) (w : World) (hk : k ≤ 10000000000000) :
  Calls Tryz.prog 35 #[.int .i64 (k : Int)] w fun e w' => e = .returned (.string (mkT k)) ∧ Below w.heap.size w w' := by
 by_cases h0 : k = 0
 ·subst h0
  go_enter Tryz.func35, Tryz.ntmps35
  go_wp2_with fail
  go_ret
  exact ⟨rfl, Below.refl _ _⟩
 ·have d0 : decide ((k : Int) ≤ 0) = false := by simp; omega
  have d1 : decide (k ≤ 0) = false := by simp; omega
  go_enter Tryz.func35, Tryz.ntmps35
  go_wp2_with fail
  go_loopw [0, 3] (fun q s wr => ∃ (j n : Nat) (t : ByteArray), j ≤ n ∧ j ≤ k ∧ q = .int .i64 (j : Int) ∧ s = .string t ∧ Hid (digF k k ByteArray.empty = digF n j t) ∧ t.size + n ≤ 10000000000000 + 1 ∧ Hid (Below w.heap.size w wr)) (fun q _ _ => (intOf q).toNat)
  case atStart => exact ⟨k, k, ByteArray.empty, Nat.le_refl _, Nat.le_refl _, rfl, rfl, hid rfl, by simp; omega, hid (Below.refl _ _)⟩
  case round =>
   obtain ⟨j, n, t, hj, hjk, rfl, rfl, HE, hts, HB⟩ := hrel
   by_cases hp : 0 < j
   ·have p1 : decide (0 < (j : Int)) = true := by simp; omega
    have p2 : decide (0 < j) = true := by simp; omega
    have hcv := run_convert_bytes_arg (P := Tryz.prog) (wr.alloc (.cells #[.int .u8 (48 + (j : Int) % 10)] 5)) 109 5 Tryz.underlying109 Tryz.underlying5 wr.heap.size 0 1 1 [48 + (j : Int) % 10] rfl (fun i hi => by (obtain rfl : i = 0 := (by omega)); simp) 9 Tryz.underlying9
    have hsz := strOfNums_size [48 + (j : Int) % 10]
    have HE2 : Hid (digF k k ByteArray.empty = digF (n - 1) (j / 10) (strOfNums [48 + (j : Int) % 10] ++ t)) := hid (by rw [HE.out, digF_step hp hj])
    obtain ⟨D, hD⟩ : ∃ D, strOfNums [48 + (j : Int) % 10] = D := ⟨_, rfl⟩
    rw [hD] at hcv hsz HE2
    have hsz1 : D.size = 1 := hsz
    obtain ⟨m, hm⟩ : ∃ m, j / 10 = m := ⟨_, rfl⟩
    have hq : IntKind.i64.wrap ((j : Int).tdiv 10) = (m : Int) := by rw [IntKind.wrap_i64, Int.tdiv_eq_ediv_of_nonneg (by omega)]; omega
    rw [hm] at HE2
    have hmj : m < j := by omega
    have HMJ := hid hm
    clear hm
    have hadd := fun w => run_string_add_sum (P := Tryz.prog) (w := w) D t (by omega)
    have HB2 := hid (HB.out.alloc HB.out.size (.cells #[.int .u8 (48 + (j : Int) % 10)] 5))
    clear hD hsz
    go_wp2_with fail
    go_roundw
    case rel => exact ⟨m, n - 1, D ++ t, by omega, by omega, by have := HMJ.out; congr 1; omega, rfl, HE2, by rw [ByteArray.size_append]; omega, HB2⟩
    case measure => simp [intOf]; omega
   ·obtain rfl : j = 0 := by omega
    have HT : Hid (mkT k = ⟨#[109]⟩ ++ t) := hid (by unfold mkT; rw [if_neg h0, HE.out, digF_zero])
    have hadd := fun w => run_string_add_sum (P := Tryz.prog) (w := w) ⟨#[109]⟩ t (by have : (⟨#[109]⟩ : ByteArray).size = 1 := rfl; omega)
    go_wp2_with fail
    go_ret
    exact ⟨by rw [HT.out]; rfl, HB.out⟩
theorem heap_set_same {w : World} {g i : Nat} {cur : Array Value} {t : TypeId} {f : Nat × Nat} {u : Value} (h : w.heap[g]? = some (.cells cur t f)) : (w.setCell ⟨g, i, none⟩ u).heap[g]? = some (.cells (cur.setIfInBounds i u) t f) := by
 simp [World.setCell, Array.getElem?_modify, h]
def Wr (w : World) (g : Nat) (t : TypeId) (n : Nat) (C : Nat → Value) : Prop := ∃ cur, w.heap[g]? = some (.cells cur t (0, 0)) ∧ n ≤ cur.size ∧ ∀ i, i < n → cur[i]? = some (C i)
theorem Wr.cell {w : World} {g n : Nat} {t : TypeId} {C : Nat → Value} (h : Wr w g t n C) {i : Nat} (hi : i < n) : w.cell? ⟨g, i, none⟩ = some (C i) := by
 obtain ⟨cur, h1, h2, h3⟩ := h
 simp [World.cell?, h1, h3 i hi]
theorem Wr.frozen {w : World} {g n : Nat} {t : TypeId} {C : Nat → Value} (h : Wr w g t n C) (i : Nat) : w.frozen? ⟨g, i, none⟩ = false := by
 obtain ⟨cur, h1, h2, h3⟩ := h
 simp [World.frozen?, h1]
theorem Wr.set {w : World} {g n : Nat} {t : TypeId} {C : Nat → Value} (h : Wr w g t n C) (i : Nat) (u : Value) : Wr (w.setCell ⟨g, i, none⟩ u) g t n (fun j => if j = i then u else C j) := by
 obtain ⟨cur, h1, h2, h3⟩ := h
 refine ⟨_, heap_set_same h1, by simpa using h2, fun j hj => ?_⟩
 rw [Array.getElem?_setIfInBounds]
 by_cases e : i = j
 ·subst e; rw [if_pos rfl, if_pos (by omega)]; simp
 ·rw [if_neg e]; show cur[j]? = some (if j = i then u else C j); rw [if_neg (Ne.symm e)]; exact h3 j hj
theorem Wr.same {w w' : World} {g n : Nat} {t : TypeId} {C : Nat → Value} (h : Wr w g t n C) (e : w'.heap[g]? = w.heap[g]?) : Wr w' g t n C := by
 obtain ⟨cur, h1, r⟩ := h; exact ⟨cur, e.trans h1, r⟩
theorem Wr.ext {w : World} {g n : Nat} {t : TypeId} {C C' : Nat → Value} (h : Wr w g t n C) (e : ∀ i, i < n → C i = C' i) : Wr w g t n C' := by
 obtain ⟨cur, h1, h2, h3⟩ := h; exact ⟨cur, h1, h2, fun i hi => by rw [← e i hi]; exact h3 i hi⟩
theorem Wr.lt {w : World} {g n : Nat} {t : TypeId} {C : Nat → Value} (h : Wr w g t n C) : g < w.heap.size := by
 obtain ⟨cur, h1, _⟩ := h; exact (Array.getElem?_eq_some_iff.1 h1).1
theorem PMk.wr {w : World} {g n : Nat} (h : PMk w g n) : ∃ C, Wr w g 9 n C := by
 obtain ⟨cur, h1, h2⟩ := h
 exact ⟨fun i => cur.getD i default, cur, h1, h2, fun i hi => by simp [Array.getD, show i < cur.size by omega]⟩
theorem Wr.pmk {w : World} {g n : Nat} {C : Nat → Value} (h : Wr w g 9 n C) : PMk w g n := by
 obtain ⟨cur, h1, h2, _⟩ := h; exact ⟨cur, h1, h2⟩
theorem PMk.any {w : World} {g n b i : Nat} {u : Value} (h : PMk w g n) : PMk (w.setCell ⟨b, i, none⟩ u) g n := by
 by_cases e : b = g
 ·subst e
  obtain ⟨cur, h1, h2⟩ := h
  exact ⟨_, heap_set_same h1, by simpa using h2⟩
 ·exact h.set _ _ (Ne.symm e)
theorem grown_set {w w' : World} {g : Nat} (h : w.grownBy w' (some g)) (i : Nat) (u : Value) : w.grownBy (w'.setCell ⟨g, i, none⟩ u) (some g) :=
 ⟨h.os, h.tape, h.output, by simpa [World.setCell] using h.size, fun k hk hne => (Below.heap_setCell _ _ _ _ (fun e => hne (by rw [e]))).trans (h.block k hk hne)⟩
theorem grown_below {w w1 w' : World} {g : Nat} (h : w.grownBy w1 (some g)) (hb : Below w1.heap.size w1 w') : w.grownBy w' (some g) :=
 ⟨hb.os.trans h.os, hb.tape.trans h.tape, hb.output.trans h.output, Nat.le_trans h.size hb.size, fun k hk hne => (hb.block k (Nat.lt_of_lt_of_le hk h.size)).trans (h.block k hk hne)⟩
theorem grown_refl {w : World} (r : Option Nat) : w.grownBy w r := ⟨rfl, rfl, rfl, Nat.le_refl _, fun _ _ _ => rfl⟩
theorem markStrings (g n c k0 : Nat) (C : Nat → Value) (w : World) (hk : k0 + n ≤ 10000000000000) (h : Wr w g 9 n C) :
  Calls Tryz.prog 15 #[.slice (some ⟨g, 0, none⟩) n c, .int .i64 (k0 : Int)] w fun e w' => e = .returned (.int .i64 ((k0 + n : Nat) : Int)) ∧ w.grownBy w' (some g) ∧ Wr w' g 9 n (fun i => .string (mkT (k0 + i))) ∧ ∀ g' n', PMk w g' n' → PMk w' g' n' := by
 have HW := hid h
 clear h
 go_enter Tryz.func15, Tryz.ntmps15
 go_wp2_with fail
 go_loopw [1, 5] (fun q i wr => ∃ (j m : Nat), j ≤ n ∧ m = k0 + j ∧ i = .int .i64 (j : Int) ∧ q = .int .i64 (m : Int) ∧ Hid (w.grownBy wr (some g)) ∧ Hid (Wr wr g 9 n (fun t => if t < j then .string (mkT (k0 + t)) else C t)) ∧ Hid (∀ g' n', PMk w g' n' → PMk wr g' n')) (fun _ i _ => n - (intOf i).toNat)
 case atStart => exact ⟨0, k0, Nat.zero_le _, rfl, rfl, rfl, hid (grown_refl _), hid (HW.out.ext fun i _ => by simp), hid (fun _ _ h => h)⟩
 case round =>
  obtain ⟨j, m, hj, hm, rfl, rfl, HG, HC, HPM⟩ := hrel
  by_cases hlt : j < n
  ·have i1 : (0 : Int) ≤ (j : Int) := Int.natCast_nonneg _
   have i2 : (j : Int) < (n : Int) := by omega
   have HT := hid (markTextC m wr (by omega))
   have HM := hid hm
   obtain ⟨s, hs⟩ : ∃ s, mkT m = s := ⟨_, rfl⟩
   rw [hs] at HT
   have HS := hid hs
   clear hs hm
   go_wp2_with fail
   refine HT.out.mono ?_
   rintro e w1 ⟨rfl, b1⟩
   have W1 := HC.out.same (b1.block g HC.out.lt)
   have c0 := W1.cell hlt
   have f0 := W1.frozen j
   rw [if_neg (by omega)] at c0
   have HG1 := hid (grown_set (grown_below HG.out b1) j (.string s))
   have HC1 := hid (W1.set j (.string s))
   have HPM1 : Hid (∀ g' n', PMk w g' n' → PMk (w1.setCell ⟨g, j, none⟩ (.string s)) g' n') := hid (fun g' n' h => by
    have h1 := HPM.out g' n' h
    obtain ⟨cur, h2, h3⟩ := h1
    exact PMk.any ⟨cur, (b1.block g' (Array.getElem?_eq_some_iff.1 h2).1).trans h2, h3⟩)
   have hm1 : (m : Int) + 1 ≤ 9223372036854775807 := by have := HM.out; omega
   clear b1 HT W1
   obtain ⟨v0, hv0⟩ : ∃ v0, C j = v0 := ⟨_, rfl⟩
   rw [hv0] at c0
   clear hv0
   go_wp2_with fail
   go_roundw
   case rel =>
    refine ⟨j + 1, m + 1, hlt, by have := HM.out; omega, by go_num, by go_num, HG1, hid (HC1.out.ext fun i hi => ?_), HPM1⟩
    by_cases e : i = j
    ·subst e; rw [if_pos rfl, if_pos (by omega), ← HS.out, HM.out]
    ·rw [if_neg e]
     by_cases e2 : i < j
     ·rw [if_pos e2, if_pos (by omega)]
     ·rw [if_neg e2, if_neg (by omega)]
   case measure => simp [intOf]; omega
  ·obtain rfl : j = n := by omega
   have HC1 := hid (HC.out.ext (C' := fun i => .string (mkT (k0 + i))) fun i hi => if_pos hi)
   have HM := hid hm
   clear hm HC
   go_wp2_with fail
   go_ret
   exact ⟨by rw [← HM.out]; rfl, HG.out, HC1.out, HPM.out⟩
structure Btw (lo hi : Nat) (w w' : World) : Prop where
 os : w'.os = w.os
 tape : w'.tape = w.tape
 output : w'.output = w.output
 size : w.heap.size ≤ w'.heap.size
 block : ∀ g, g < w.heap.size → (g < lo ∨ hi ≤ g) → w'.heap[g]? = w.heap[g]?
theorem Btw.refl (lo hi : Nat) (w : World) : Btw lo hi w w := ⟨rfl, rfl, rfl, Nat.le_refl _, fun _ _ _ => rfl⟩
theorem Btw.trans {lo hi : Nat} {a b c : World} (h : Btw lo hi a b) (k : Btw lo hi b c) : Btw lo hi a c :=
 ⟨k.os.trans h.os, k.tape.trans h.tape, k.output.trans h.output, Nat.le_trans h.size k.size, fun g hg ho => (k.block g (Nat.lt_of_lt_of_le hg h.size) ho).trans (h.block g hg ho)⟩
theorem Btw.of {lo hi g : Nat} {w w' : World} (h : w.grownBy w' (some g)) (h1 : lo ≤ g) (h2 : g < hi) : Btw lo hi w w' :=
 ⟨h.os, h.tape, h.output, h.size, fun k hk ho => h.block k hk (fun e => by injection e with e; omega)⟩
theorem Btw.below {lo hi : Nat} {w w' : World} (h : Below w.heap.size w w') : Btw lo hi w w' := ⟨h.os, h.tape, h.output, h.size, fun k hk _ => h.block k hk⟩
theorem Btw.set {lo hi : Nat} {w w' : World} (h : Btw lo hi w w') (q : Addr) (u : Value) (h1 : lo ≤ q.block) (h2 : q.block < hi) : Btw lo hi w (w'.setCell q u) :=
 ⟨h.os, h.tape, h.output, by simpa [World.setCell] using h.size, fun g hg ho => (Below.heap_setCell _ _ _ _ (by omega)).trans (h.block g hg ho)⟩
structure LTo (w : World) (lo hi b : Nat) (l : List Lf) (j : Nat) : Prop where
 wr : ∃ C, Wr w b 57 (l.length * 5) C
 paths : ∀ i, j ≤ i → i < l.length → ∃ g, w.cell? ⟨b, i * 5, none⟩ = some (.slice (some ⟨g, 0, none⟩) (gL l i).p.length (gL l i).p.length) ∧ g ≠ b ∧ lo ≤ g ∧ g < hi
 str : ∀ i, j ≤ i → i < l.length → ∀ g n c, w.cell? ⟨b, i * 5, none⟩ = some (.slice (some ⟨g, 0, none⟩) n c) → PMk w g (gL l i).p.length
theorem LMk.to {w : World} {lo hi b : Nat} {l : List Lf} (h : LMk w lo hi b l) : LTo w lo hi b l 0 := by
 obtain ⟨h1, ⟨cur, h2, h3⟩, h4⟩ := h
 refine ⟨⟨fun i => cur.getD i default, cur, h2, h3, fun i hi => by simp [Array.getD, show i < cur.size by omega]⟩, fun i _ hi' => ?_, fun i _ hi' g n c hc => ?_⟩
 ·obtain ⟨g, g1, g2, g3, g4, g5⟩ := h4 i hi'
  exact ⟨g, g1, g2, g3, g4⟩
 ·obtain ⟨g', g1, g2, g3, g4, g5⟩ := h4 i hi'
  rw [g1] at hc
  simp at hc
  obtain ⟨rfl, _⟩ := hc
  exact g5
theorem LTo.btw {w : World} {lo hi b : Nat} {l : List Lf} {j : Nat} (h : LTo w lo hi b l j) : LTo w lo hi b l (j + 1) := ⟨h.wr, fun i hi => h.paths i (by omega), fun i hi => h.str i (by omega)⟩
theorem LTo.set {w : World} {lo hi b o : Nat} {l : List Lf} {j : Nat} (h : LTo w lo hi b l j) (u : Value) (ho : o < j * 5) : LTo (w.setCell ⟨b, o, none⟩ u) lo hi b l j := by
 obtain ⟨C, hC⟩ := h.wr
 have q : ∀ i, j ≤ i → (w.setCell ⟨b, o, none⟩ u).cell? ⟨b, i * 5, none⟩ = w.cell? ⟨b, i * 5, none⟩ := fun i hi => by
  have : o ≠ i * 5 := by omega
  simp [World.cell?_setCell_other, this]
 refine ⟨⟨_, hC.set o u⟩, fun i h1 h2 => ?_, fun i h1 h2 g n c hc => ?_⟩
 ·rw [q i h1]; exact h.paths i h1 h2
 ·rw [q i h1] at hc; exact (h.str i h1 h2 g n c hc).any
theorem LTo.grown {w w' : World} {lo hi b g : Nat} {l : List Lf} {j : Nat} (h : LTo w lo hi b l j) (hg : w.grownBy w' (some g)) (hb : g ≠ b) (hp : ∀ g' n', PMk w g' n' → PMk w' g' n') : LTo w' lo hi b l j := by
 obtain ⟨C, hC⟩ := h.wr
 have e : w'.heap[b]? = w.heap[b]? := hg.block b hC.lt (fun e => hb (by injection e with e; exact e.symm))
 have q : ∀ i, w'.cell? ⟨b, i * 5, none⟩ = w.cell? ⟨b, i * 5, none⟩ := fun i => World.cell?_of_block (a := ⟨b, i * 5, none⟩) e
 refine ⟨⟨C, hC.same e⟩, fun i h1 h2 => ?_, fun i h1 h2 g n c hc => ?_⟩
 ·rw [q i]; exact h.paths i h1 h2
 ·rw [q i] at hc; exact hp _ _ (h.str i h1 h2 g n c hc)
theorem LTo.below {w w' : World} {lo hi b : Nat} {l : List Lf} {j : Nat} (h : LTo w lo hi b l j) (hb : Below w.heap.size w w') : LTo w' lo hi b l j := by
 obtain ⟨C, hC⟩ := h.wr
 have e := hb.block b hC.lt
 have q : ∀ i, w'.cell? ⟨b, i * 5, none⟩ = w.cell? ⟨b, i * 5, none⟩ := fun i => World.cell?_of_block (a := ⟨b, i * 5, none⟩) e
 refine ⟨⟨C, hC.same e⟩, fun i h1 h2 => ?_, fun i h1 h2 g n c hc => ?_⟩
 ·rw [q i]; exact h.paths i h1 h2
 ·rw [q i] at hc
  obtain ⟨cur, h3, h4⟩ := h.str i h1 h2 g n c hc
  exact ⟨cur, (hb.block g (Array.getElem?_eq_some_iff.1 h3).1).trans h3, h4⟩
theorem markLeaves (lo hi b c k0 : Nat) (l : List Lf) (w : World) (hk : k0 ≤ 4000000000000) (hn : l.length ≤ 1048576) (hp : ∀ i, (gL l i).p.length ≤ 1048576) (hb : lo ≤ b ∧ b < hi) (h : LTo w lo hi b l 0) :
  Calls Tryz.prog 33 #[.slice (some ⟨b, 0, none⟩) l.length c, .int .i64 (k0 : Int)] w fun e w' => (∃ k1 : Nat, k1 ≤ k0 + 2000000000000 ∧ e = .returned (.int .i64 (k1 : Int))) ∧ Btw lo hi w w' ∧ ∀ (q : Nat) (cur : Array Value), w.heap[q]? = some (Obj.cells cur 94 (0, 0)) → w'.heap[q]? = w.heap[q]? := by
 have HW := hid h
 have Hb := hid hb
 clear h hb
 go_enter Tryz.func33, Tryz.ntmps33
 go_wp2_with fail
 go_loopw [1, 5] (fun q i wr => ∃ (j m : Nat), j ≤ l.length ∧ m ≤ k0 + j * 1048580 ∧ i = .int .i64 (j : Int) ∧ q = .int .i64 (m : Int) ∧ Hid (Btw lo hi w wr) ∧ Hid (LTo wr lo hi b l j) ∧ Hid (∀ (q : Nat) (cur : Array Value), w.heap[q]? = some (Obj.cells cur 94 (0, 0)) → wr.heap[q]? = w.heap[q]?)) (fun _ i _ => l.length - (intOf i).toNat)
 case atStart => exact ⟨0, k0, Nat.zero_le _, by omega, rfl, rfl, hid (Btw.refl _ _ _), HW, hid (fun _ _ _ => rfl)⟩
 case round =>
  obtain ⟨j, m, hj, hm, rfl, rfl, HB, HL, HQ⟩ := hrel
  by_cases hlt : j < l.length
  ·have i1 : (0 : Int) ≤ (j : Int) := Int.natCast_nonneg _
   have i2 : (j : Int) < (l.length : Int) := by omega
   obtain ⟨g, g1, g2, g3, g4⟩ := HL.out.paths j (Nat.le_refl _) hlt
   obtain ⟨PC, hPC⟩ := (HL.out.str j (Nat.le_refl _) hlt _ _ _ g1).wr
   have hpj := hp j
   obtain ⟨np, hnp⟩ : ∃ np, (gL l j).p.length = np := ⟨_, rfl⟩
   rw [hnp] at g1 hPC hpj
   have HMS := hid (markStrings g np np m PC wr (by omega) hPC)
   have HQg : Hid (∀ (q : Nat) (cur : Array Value), w.heap[q]? = some (Obj.cells cur 94 (0, 0)) → q ≠ g) := hid (fun q cur h e => by
    subst e
    obtain ⟨cur', h1, _⟩ := hPC
    rw [HQ.out _ _ h, h] at h1
    injection h1 with h1
    injection h1 with _ h2
    exact absurd h2 (by decide))
   clear hPC hnp
   go_wp2_with fail
   refine HMS.out.mono ?_
   rintro e w1 ⟨rfl, hg1, hw1, hpm⟩
   have HQ1 : Hid (∀ (q : Nat) (cur : Array Value), w.heap[q]? = some (Obj.cells cur 94 (0, 0)) → w1.heap[q]? = w.heap[q]?) := hid (fun q cur h => (hg1.block q (Nat.lt_of_lt_of_le (Array.getElem?_eq_some_iff.1 h).1 HB.out.size) (fun e => HQg.out q cur h (by injection e))).trans (HQ.out q cur h))
   have L1 := HL.out.btw.grown hg1 g2 hpm
   have HQb : Hid (∀ (q : Nat) (cur : Array Value), w.heap[q]? = some (Obj.cells cur 94 (0, 0)) → q ≠ b) := hid (fun q cur h e => by
    subst e
    obtain ⟨C', cur', h1, _⟩ := L1.wr
    rw [HQ1.out _ _ h, h] at h1
    injection h1 with h1
    injection h1 with _ h2
    exact absurd h2 (by decide))
   have HB1 := hid (HB.out.trans (Btw.of hg1 g3 g4))
   obtain ⟨C, hC⟩ := L1.wr
   have HL1 := hid L1
   obtain ⟨m1, hm1⟩ : ∃ m1, m + np = m1 := ⟨_, rfl⟩
   have hm2 : m1 ≤ k0 + j * 1048580 + 1048576 := by omega
   have c1 := hC.cell (i := j * 5 + 1) (by omega)
   have c2 := hC.cell (i := j * 5 + 2) (by omega)
   have c3 := hC.cell (i := j * 5 + 3) (by omega)
   have f1 := hC.frozen (j * 5 + 1)
   have f2 := hC.frozen (j * 5 + 2)
   have f3 := hC.frozen (j * 5 + 3)
   rw [hm1]
   clear hC L1 hg1 hw1 hpm HMS hm1 g1 HL
   go_wp2_with fail
   obtain ⟨W3, hW3⟩ : ∃ W3, ((w1.setCell ⟨b, j * 5 + 1, none⟩ (.bool ((m1 : Int) % 3 == 0))).setCell ⟨b, j * 5 + 2, none⟩ (.int .i64 ((m1 : Int) + 1))).setCell ⟨b, j * 5 + 2 + 1, none⟩ (.int .i64 ((m1 : Int) + 1 + 1)) = W3 := ⟨_, rfl⟩
   rw [hW3]
   have L3 : LTo W3 lo hi b l (j + 1) := by rw [← hW3]; exact ((HL1.out.set _ (by omega)).set _ (by omega)).set _ (by omega)
   have B3 : Btw lo hi w W3 := by rw [← hW3]; exact ((HB1.out.set _ _ Hb.out.1 Hb.out.2).set _ _ Hb.out.1 Hb.out.2).set _ _ Hb.out.1 Hb.out.2
   have Q3 : ∀ (q : Nat) (cur : Array Value), w.heap[q]? = some (Obj.cells cur 94 (0, 0)) → W3.heap[q]? = w.heap[q]? := fun q cur h => by
    have hq := HQb.out q cur h
    rw [← hW3, Below.heap_setCell _ _ _ _ hq, Below.heap_setCell _ _ _ _ hq, Below.heap_setCell _ _ _ _ hq]; exact HQ1.out q cur h
   have MT := markTextC (m1 + 3) W3 (by omega)
   have e3 : ((m1 + 3 : Nat) : Int) = (m1 : Int) + 1 + 1 + 1 := by omega
   rw [e3] at MT
   clear hW3 c1 c2 c3 f1 f2 f3 HL1 HB1 e3
   refine MT.mono ?_
   rintro e w4 ⟨rfl, b4⟩
   have L4 := L3.below b4
   have HQ5 : Hid (∀ (q : Nat) (cur : Array Value), w.heap[q]? = some (Obj.cells cur 94 (0, 0)) → ∀ v, (w4.setCell ⟨b, j * 5 + 4, none⟩ v).heap[q]? = w.heap[q]?) := hid (fun q cur h v => by
    rw [Below.heap_setCell _ _ _ _ (HQb.out q cur h), b4.block q (Nat.lt_of_lt_of_le (Array.getElem?_eq_some_iff.1 h).1 B3.size)]; exact Q3 q cur h)
   have HB4 := hid (B3.trans (Btw.below b4))
   obtain ⟨C4, hC4⟩ := L4.wr
   have c4 := hC4.cell (i := j * 5 + 4) (by omega)
   have f4 := hC4.frozen (j * 5 + 4)
   have HL4 := hid (L4.set (o := j * 5 + 4) (.string (mkT (m1 + 3))) (by omega))
   have HB5 := hid (HB4.out.set ⟨b, j * 5 + 4, none⟩ (.string (mkT (m1 + 3))) Hb.out.1 Hb.out.2)
   obtain ⟨t4, ht4⟩ : ∃ t4, mkT (m1 + 3) = t4 := ⟨_, rfl⟩
   rw [ht4] at HL4 HB5
   rw [ht4]
   clear hC4 L4 L3 B3 Q3 b4 HB4 MT ht4
   go_wp2_with fail
   go_roundw
   case rel => exact ⟨j + 1, m1 + 4, hlt, by omega, by go_num, by go_num, HB5, HL4, hid (fun q cur h => HQ5.out q cur h _)⟩
   case measure => simp [intOf]; omega
  ·obtain rfl : j = l.length := by omega
   clear HL
   go_wp2_with fail
   go_ret
   exact ⟨⟨m, by omega, rfl⟩, HB.out, HQ.out⟩
theorem markStateC (lo hi b g n k0 : Nat) (l : List Lf) (ys : List Value) (w : World) (hk : k0 ≤ 4000000000000) (hn : l.length ≤ 1048576) (hp : ∀ i, (gL l i).p.length ≤ 1048576) (hm : n ≤ 1048576) (hh : hi ≤ w.heap.size) (hg : lo ≤ g ∧ g < hi) (h : LMk w lo hi b l) (ho : w.ownsRow lo 94 3 (.slice (some ⟨g, 0, none⟩) n n) n ys) :
  Calls Tryz.prog 14 #[.agg #[.slice (some ⟨b, 0, none⟩) l.length l.length, .slice (some ⟨g, 0, none⟩) n n], .int .i64 (k0 : Int)] w fun e w' => (∃ k1 : Nat, k1 ≤ k0 + 3000000000000 ∧ e = .returned (.int .i64 (k1 : Int))) ∧ Btw lo hi w w' := by
 obtain ⟨W, hW⟩ : ∃ W, w.alloc (.cells #[.slice (some ⟨b, 0, none⟩) l.length l.length, .slice (some ⟨g, 0, none⟩) n n] 36) = W := ⟨_, rfl⟩
 have b0 : Below w.heap.size w W := by rw [← hW]; exact (Below.refl _ _).alloc (Nat.le_refl _) _
 have z0 : w.heap.size < W.heap.size := by rw [← hW]; simp
 have k0' : W.cell? ⟨w.heap.size, 0, none⟩ = some (.slice (some ⟨b, 0, none⟩) l.length l.length) := by rw [← hW]; simp
 have k1' : W.cell? ⟨w.heap.size, 1, none⟩ = some (.slice (some ⟨g, 0, none⟩) n n) := by rw [← hW]; simp
 have HM := hid (markLeaves lo hi b l.length k0 l W (by omega) hn hp h.1 (h.to.below b0))
 have HO := hid (owns_below ho b0 (fun k hk => by simp [Value.ownBlock] at hk; omega))
 have HB := hid (Btw.below (lo := lo) (hi := hi) b0)
 clear h ho b0
 go_enter Tryz.func14, Tryz.ntmps14
 go_wp2_with fail
 try rw [hW]
 clear hW
 refine HM.out.mono ?_
 rintro e w1 ⟨⟨m, hm1, rfl⟩, b1, hq⟩
 have c1 := (World.cell?_of_block (a := ⟨w.heap.size, 1, none⟩) (b1.block w.heap.size z0 (.inr hh))).trans k1'
 have HO1 : Hid (∃ ys, w1.ownsRow lo 94 3 (.slice (some ⟨g, 0, none⟩) n n) n ys) := hid (by
  obtain ⟨q1, q2⟩ := HO.out
  refine ⟨ys, q1, ?_⟩
  rcases q2 with ⟨q2, _⟩ | ⟨g', cap, cur, e, hbg, hb, r⟩
  ·cases q2
  ·exact .inr ⟨g', cap, cur, e, hbg, (hq g' cur hb).trans hb, r⟩)
 have HB1 := hid (HB.out.trans b1)
 clear b1 hq HM HO k0' k1'
 go_wp2_with fail
 obtain ⟨ys1, o1⟩ := HO1.out
 refine (markContext lo g n n m ys1 w1 (by have := HB1.out.size; omega) (by omega) (by omega) o1).mono ?_
 rintro e w2 ⟨rfl, bl2, _, hs2, hb2⟩
 have HB2 := hid (HB1.out.trans (⟨bl2.os, bl2.tape, bl2.output, hs2, fun q hq ho => hb2 q hq (by omega)⟩ : Btw lo hi w1 w2))
 obtain ⟨m2, hm2⟩ : ∃ m2, m + 3 * n = m2 := ⟨_, rfl⟩
 rw [hm2]
 have hm3 : m2 ≤ k0 + 3000000000000 := by omega
 clear bl2 hs2 hb2 o1 HO1 hm2 c1
 go_wp2_with fail
 go_ret
 exact ⟨⟨m2, hm3, rfl⟩, HB2.out⟩
def mP (l : List Lf) (k0 : Nat) : Nat → Nat
 | 0 => k0
 | i + 1 => mP l k0 i + (gL l i).p.length + 4
def mLf (k n : Nat) : Lf := ⟨(List.range n).map fun t => mkT (k + t), ((k + n : Nat) : Int) % 3 == 0, ((k + n + 1 : Nat) : Int), ((k + n + 2 : Nat) : Int), mkT (k + n + 3)⟩
def mkL (l : List Lf) (k0 : Nat) : List Lf := (List.range l.length).map fun i => mLf (mP l k0 i) (gL l i).p.length
theorem mkL_len (l : List Lf) (k0 : Nat) : (mkL l k0).length = l.length := by simp [mkL]
theorem mkL_at (l : List Lf) (k0 : Nat) {i : Nat} (hi : i < l.length) : gL (mkL l k0) i = mLf (mP l k0 i) (gL l i).p.length := by simp [gL, mkL, List.getD, hi]
theorem mLf_len (k n : Nat) : (mLf k n).p.length = n := by simp [mLf]
theorem mLf_s (k n : Nat) {t : Nat} (ht : t < n) : gS (mLf k n).p t = mkT (k + t) := by simp [gS, mLf, List.getD, ht]
theorem mP_le {l : List Lf} {k0 : Nat} (hp : ∀ i, (gL l i).p.length ≤ 1048576) : ∀ i, mP l k0 i ≤ k0 + i * 1048580
 | 0 => by simp [mP]
 | i + 1 => by have := mP_le (k0 := k0) hp i; have := hp i; simp only [mP]; omega
structure LWy (lo hi b : Nat) (l : List Lf) (P : Nat → Option Addr) (G : Nat → Nat) : Prop where
 b1 : lo ≤ b
 b2 : b < hi
 g1 : ∀ i, i < l.length → 0 < (gL l i).p.length → P i = some ⟨G i, 0, none⟩ ∧ G i ≠ b ∧ lo ≤ G i ∧ G i < hi
 sep : ∀ i j, i < l.length → j < l.length → 0 < (gL l i).p.length → 0 < (gL l j).p.length → i ≠ j → G i ≠ G j
structure LIn (w0 w : World) (lo hi b : Nat) (l : List Lf) (P : Nat → Option Addr) (Q G : Nat → Nat) (k0 js jc : Nat) : Prop where
 low : Btw lo hi w0 w
 run : ∀ (q : Nat) (cur : Array Value), w0.heap[q]? = some (Obj.cells cur 94 (0, 0)) → w.heap[q]? = w0.heap[q]?
 wr : ∃ C, Wr w b 57 (l.length * 5) C
 pth : ∀ i, i < l.length → w.cell? ⟨b, i * 5, none⟩ = some (.slice (P i) (gL l i).p.length (Q i))
 todo : ∀ i, js ≤ i → i < l.length → 0 < (gL l i).p.length → PMk w (G i) (gL l i).p.length
 done : ∀ i, i < js → i < l.length → 0 < (gL l i).p.length → Wr w (G i) 9 (gL l i).p.length (fun t => .string (mkT (mP l k0 i + t)))
 cel : ∀ i, i < jc → i < l.length → w.cell? ⟨b, i * 5 + 1, none⟩ = some (.bool (mLf (mP l k0 i) (gL l i).p.length).fl) ∧ w.cell? ⟨b, i * 5 + 2, none⟩ = some (.int .i64 (mLf (mP l k0 i) (gL l i).p.length).r) ∧ w.cell? ⟨b, i * 5 + 3, none⟩ = some (.int .i64 (mLf (mP l k0 i) (gL l i).p.length).q) ∧ w.cell? ⟨b, i * 5 + 4, none⟩ = some (.string (mLf (mP l k0 i) (gL l i).p.length).v)
theorem LIn.below {w0 w w' : World} {lo hi b : Nat} {l : List Lf} {P : Nat → Option Addr} {Q G : Nat → Nat} {k0 js jc : Nat} (h : LIn w0 w lo hi b l P Q G k0 js jc) (hb : Below w.heap.size w w') : LIn w0 w' lo hi b l P Q G k0 js jc := by
 obtain ⟨C, hC⟩ := h.wr
 have e := hb.block b hC.lt
 have q : ∀ i, w'.cell? ⟨b, i, none⟩ = w.cell? ⟨b, i, none⟩ := fun i => World.cell?_of_block (a := ⟨b, i, none⟩) e
 refine ⟨h.low.trans (Btw.below hb), fun q cur hq => (hb.block q (Nat.lt_of_lt_of_le (Array.getElem?_eq_some_iff.1 hq).1 h.low.size)).trans (h.run q cur hq), ⟨C, hC.same e⟩, fun i hi => (q _).trans (h.pth i hi), fun i h1 h2 h3 => ?_, fun i h1 h2 h3 => ?_, fun i h1 h2 => ?_⟩
 ·obtain ⟨cur, k1, k2⟩ := h.todo i h1 h2 h3
  exact ⟨cur, (hb.block _ (Array.getElem?_eq_some_iff.1 k1).1).trans k1, k2⟩
 ·exact (h.done i h1 h2 h3).same (hb.block _ (h.done i h1 h2 h3).lt)
 ·rw [q, q, q, q]; exact h.cel i h1 h2
theorem LIn.set {w0 w : World} {lo hi b : Nat} {l : List Lf} {P : Nat → Option Addr} {Q G : Nat → Nat} {k0 js jc : Nat} (hw : LWy lo hi b l P G) (h : LIn w0 w lo hi b l P Q G k0 js jc) (o : Nat) (u : Value) (ho : jc * 5 < o ∧ o < jc * 5 + 5) : LIn w0 (w.setCell ⟨b, o, none⟩ u) lo hi b l P Q G k0 js jc := by
 obtain ⟨C, hC⟩ := h.wr
 have q : ∀ i, i ≠ o → (w.setCell ⟨b, o, none⟩ u).cell? ⟨b, i, none⟩ = w.cell? ⟨b, i, none⟩ := fun i hi => by simp [World.cell?_setCell_other, Ne.symm hi]
 refine ⟨h.low.set _ _ hw.b1 hw.b2, fun q cur hq => ?_, ⟨_, hC.set o u⟩, fun i hi => (q _ (by omega)).trans (h.pth i hi), fun i h1 h2 h3 => (h.todo i h1 h2 h3).any, fun i h1 h2 h3 => ?_, fun i h1 h2 => ?_⟩
 ·refine (Below.heap_setCell _ _ _ _ ?_).trans (h.run q cur hq)
  intro e
  have e' : q = b := e
  subst e'
  obtain ⟨cur', k1, _⟩ := hC
  rw [h.run _ _ hq, hq] at k1
  injection k1 with k1
  injection k1 with _ k2
  exact absurd k2 (by decide)
 ·exact (h.done i h1 h2 h3).same (Below.heap_setCell _ _ _ _ (hw.g1 i h2 h3).2.1)
 ·rw [q _ (by omega), q _ (by omega), q _ (by omega), q _ (by omega)]; exact h.cel i h1 h2
theorem LIn.str {w0 w w' : World} {lo hi b : Nat} {l : List Lf} {P : Nat → Option Addr} {Q G : Nat → Nat} {k0 js : Nat} (hw : LWy lo hi b l P G) (h : LIn w0 w lo hi b l P Q G k0 js js) (hj : js < l.length) (h0 : 0 < (gL l js).p.length) (hg : w.grownBy w' (some (G js))) (hc : Wr w' (G js) 9 (gL l js).p.length (fun t => .string (mkT (mP l k0 js + t)))) (hpm : ∀ g' n', PMk w g' n' → PMk w' g' n') : LIn w0 w' lo hi b l P Q G k0 (js + 1) js := by
 obtain ⟨C, hC⟩ := h.wr
 have hs := hw.g1 js hj h0
 have e := hg.block b hC.lt (fun e => hs.2.1 (by injection e with e; exact e.symm))
 have q : ∀ i, w'.cell? ⟨b, i, none⟩ = w.cell? ⟨b, i, none⟩ := fun i => World.cell?_of_block (a := ⟨b, i, none⟩) e
 refine ⟨h.low.trans (Btw.of hg hs.2.2.1 hs.2.2.2), fun q cur hq => ?_, ⟨C, hC.same e⟩, fun i hi => (q _).trans (h.pth i hi), fun i h1 h2 h3 => hpm _ _ (h.todo i (by omega) h2 h3), fun i h1 h2 h3 => ?_, fun i h1 h2 => ?_⟩
 ·refine (hg.block q (Nat.lt_of_lt_of_le (Array.getElem?_eq_some_iff.1 hq).1 h.low.size) (fun e => ?_)).trans (h.run q cur hq)
  injection e with e
  subst e
  obtain ⟨cur', k1, _⟩ := h.todo js (Nat.le_refl _) hj h0
  rw [h.run _ _ hq, hq] at k1
  injection k1 with k1
  injection k1 with _ k2
  exact absurd k2 (by decide)
 ·by_cases ei : i = js
  ·subst ei; exact hc
  ·have hd := h.done i (by omega) h2 h3
   exact hd.same (hg.block _ hd.lt (fun e => by injection e with e; exact hw.sep i js h2 hj h3 h0 ei e))
 ·rw [q, q, q, q]; exact h.cel i h1 h2
theorem LIn.skip {w0 w : World} {lo hi b : Nat} {l : List Lf} {P : Nat → Option Addr} {Q G : Nat → Nat} {k0 js jc : Nat} (h : LIn w0 w lo hi b l P Q G k0 js jc) (h0 : (gL l js).p.length = 0) : LIn w0 w lo hi b l P Q G k0 (js + 1) jc :=
 ⟨h.low, h.run, h.wr, h.pth, fun i h1 => h.todo i (by omega), fun i h1 h2 h3 => by
  by_cases ei : i = js
  ·subst ei; omega
  ·exact h.done i (by omega) h2 h3, h.cel⟩
theorem LIn.seg {w0 w w' : World} {lo hi b : Nat} {l : List Lf} {P : Nat → Option Addr} {Q G : Nat → Nat} {k0 : Nat} (hw : LWy lo hi b l P G) (h : LIn w0 w lo hi b l P Q G k0 l.length l.length) (hs : w.heap.size ≤ w'.heap.size) (hq : ∀ q, lo ≤ q → q < hi → q < w.heap.size → (∀ cur, w0.heap[q]? ≠ some (Obj.cells cur 94 (0, 0))) → w'.heap[q]? = w.heap[q]?) : LSeg w' (some ⟨b, 0, none⟩) (mkL l k0) := by
 obtain ⟨C, hC⟩ := h.wr
 have eb : w'.heap[b]? = w.heap[b]? := hq b hw.b1 hw.b2 hC.lt (fun cur e => by
  obtain ⟨cur', k1, _⟩ := hC
  rw [h.run _ _ e, e] at k1
  injection k1 with k1
  injection k1 with _ k2
  exact absurd k2 (by decide))
 have q : ∀ i, w'.cell? ⟨b, i, none⟩ = w.cell? ⟨b, i, none⟩ := fun i => World.cell?_of_block (a := ⟨b, i, none⟩) eb
 refine .inr ⟨b, 0, rfl, Nat.lt_of_lt_of_le hC.lt hs, fun i hi => ?_⟩
 rw [mkL_len] at hi
 have c := h.cel i hi hi
 rw [mkL_at l k0 hi, mLf_len, q, q, q, q, q]
 refine ⟨P i, Q i, by simpa using h.pth i hi, ?_, by simpa using c.1, by simpa using c.2.1, by simpa using c.2.2.1, by simpa using c.2.2.2⟩
 by_cases h0 : 0 < (gL l i).p.length
 ·have hd := h.done i hi hi h0
  have eg : w'.heap[G i]? = w.heap[G i]? := hq (G i) (hw.g1 i hi h0).2.2.1 (hw.g1 i hi h0).2.2.2 hd.lt (fun cur e => by
   obtain ⟨cur', k1, _⟩ := hd
   rw [h.run _ _ e, e] at k1
   injection k1 with k1
   injection k1 with _ k2
   exact absurd k2 (by decide))
  have hd' := hd.same eg
  refine .inr ⟨G i, 0, (hw.g1 i hi h0).1, hd'.lt, fun t ht => ?_⟩
  rw [mLf_len] at ht
  rw [mLf_s _ _ ht]
  simpa using hd'.cell ht
 ·exact .inl (by rw [mLf_len]; omega)
theorem markStrs0 (a : Option Addr) (c k0 : Nat) (w : World) : Calls Tryz.prog 15 #[.slice a 0 c, .int .i64 (k0 : Int)] w fun e w' => e = .returned (.int .i64 (k0 : Int)) ∧ w' = w := by
 go_enter Tryz.func15, Tryz.ntmps15
 go_wp2_with fail
 refine wp_loop_rounds 1 ?_; rw [rounds_succ]; go_wp2_with fail
 go_ret
 exact ⟨rfl, rfl⟩
theorem LIn.mark {w0 w : World} {lo hi b : Nat} {l : List Lf} {P : Nat → Option Addr} {Q G : Nat → Nat} {k0 js : Nat} (hw : LWy lo hi b l P G) (h : LIn w0 w lo hi b l P Q G k0 js js) (hj : js < l.length) (hk : mP l k0 js + (gL l js).p.length ≤ 10000000000000) :
  Calls Tryz.prog 15 #[.slice (P js) (gL l js).p.length (Q js), .int .i64 (mP l k0 js : Int)] w fun e w' => e = .returned (.int .i64 ((mP l k0 js + (gL l js).p.length : Nat) : Int)) ∧ LIn w0 w' lo hi b l P Q G k0 (js + 1) js := by
 by_cases h0 : 0 < (gL l js).p.length
 ·obtain ⟨C, hC⟩ := (h.todo js (Nat.le_refl _) hj h0).wr
  rw [(hw.g1 js hj h0).1]
  refine (markStrings (G js) (gL l js).p.length (Q js) (mP l k0 js) C w hk hC).mono ?_
  rintro e w' ⟨rfl, g1, g2, g3⟩
  exact ⟨rfl, h.str hw hj h0 g1 g2 g3⟩
 ·have hz : (gL l js).p.length = 0 := by omega
  rw [hz]
  refine (markStrs0 (P js) (Q js) (mP l k0 js) w).mono ?_
  rintro e w' ⟨rfl, rfl⟩
  exact ⟨rfl, h.skip hz⟩
theorem markLeavesK (lo hi b c k0 : Nat) (l : List Lf) (P : Nat → Option Addr) (Q G : Nat → Nat) (w : World) (hk : k0 ≤ 4000000000000) (hn : l.length ≤ 1048576) (hp : ∀ i, (gL l i).p.length ≤ 1048576) (hw : LWy lo hi b l P G) (h : LIn w w lo hi b l P Q G k0 0 0) :
  Calls Tryz.prog 33 #[.slice (some ⟨b, 0, none⟩) l.length c, .int .i64 (k0 : Int)] w fun e w' => e = .returned (.int .i64 (mP l k0 l.length : Int)) ∧ LIn w w' lo hi b l P Q G k0 l.length l.length := by
 have HI := hid h
 have HW := hid hw
 have HMP : Hid (∀ j, j < l.length → ∀ wr, LIn w wr lo hi b l P Q G k0 j j → Calls Tryz.prog 15 #[.slice (P j) (gL l j).p.length (Q j), .int .i64 (mP l k0 j : Int)] wr fun e w' => e = .returned (.int .i64 ((mP l k0 j + (gL l j).p.length : Nat) : Int)) ∧ LIn w w' lo hi b l P Q G k0 (j + 1) j) := hid (fun j hj wr hI => hI.mark hw hj (by have := mP_le (k0 := k0) hp j; have := hp j; omega))
 have HLE := hid (mP_le (l := l) (k0 := k0) hp)
 clear h hw
 go_enter Tryz.func33, Tryz.ntmps33
 go_wp2_with fail
 go_loopw [1, 5] (fun q i wr => ∃ (j m : Nat), j ≤ l.length ∧ i = .int .i64 (j : Int) ∧ q = .int .i64 (m : Int) ∧ Hid (mP l k0 j = m) ∧ Hid (LIn w wr lo hi b l P Q G k0 j j)) (fun _ i _ => l.length - (intOf i).toNat)
 case atStart => exact ⟨0, k0, Nat.zero_le _, rfl, rfl, hid rfl, HI⟩
 case round =>
  obtain ⟨j, m, hj, rfl, rfl, HM, HL⟩ := hrel
  by_cases hlt : j < l.length
  ·have i1 : (0 : Int) ≤ (j : Int) := Int.natCast_nonneg _
   have i2 : (j : Int) < (l.length : Int) := by omega
   have g1 := HL.out.pth j hlt
   have HMS := hid (HMP.out j hlt wr HL.out)
   have hpj := hp j
   have hmj : m ≤ k0 + j * 1048580 := by have := HLE.out j; rw [HM.out] at this; exact this
   have HNX : Hid (mP l k0 (j + 1) = m + (gL l j).p.length + 4) := hid (by simp only [mP]; rw [HM.out])
   have HCE : Hid (∀ w', w'.cell? ⟨b, j * 5 + 1, none⟩ = some (.bool (((m + (gL l j).p.length : Nat) : Int) % 3 == 0)) → w'.cell? ⟨b, j * 5 + 2, none⟩ = some (.int .i64 ((m + (gL l j).p.length + 1 : Nat) : Int)) → w'.cell? ⟨b, j * 5 + 3, none⟩ = some (.int .i64 ((m + (gL l j).p.length + 2 : Nat) : Int)) → w'.cell? ⟨b, j * 5 + 4, none⟩ = some (.string (mkT (m + (gL l j).p.length + 3))) → LIn w w' lo hi b l P Q G k0 (j + 1) j → LIn w w' lo hi b l P Q G k0 (j + 1) (j + 1)) := hid (fun w' c1 c2 c3 c4 h => ⟨h.low, h.run, h.wr, h.pth, h.todo, h.done, fun i h1 h2 => by
    by_cases ei : i = j
    ·subst ei; rw [HM.out]; exact ⟨c1, c2, c3, c4⟩
    ·exact h.cel i (by omega) h2⟩)
   obtain ⟨np, hnp⟩ : ∃ np, (gL l j).p.length = np := ⟨_, rfl⟩
   rw [HM.out] at HMS
   rw [hnp] at g1 hpj HMS HNX HCE
   clear hnp
   obtain ⟨pj, hpj'⟩ : ∃ pj, P j = pj := ⟨_, rfl⟩
   obtain ⟨qj, hqj⟩ : ∃ qj, Q j = qj := ⟨_, rfl⟩
   rw [hpj', hqj] at g1 HMS
   clear hpj' hqj
   go_wp2_with fail
   refine HMS.out.mono ?_
   rintro e w1 ⟨rfl, L1⟩
   obtain ⟨C, hC⟩ := L1.wr
   have HL1 := hid L1
   obtain ⟨m1, hm1⟩ : ∃ m1, m + np = m1 := ⟨_, rfl⟩
   have hm2 : m1 ≤ k0 + j * 1048580 + 1048576 := by omega
   rw [hm1] at HNX HCE ⊢
   have c1 := hC.cell (i := j * 5 + 1) (by omega)
   have c2 := hC.cell (i := j * 5 + 2) (by omega)
   have c3 := hC.cell (i := j * 5 + 3) (by omega)
   have f1 := hC.frozen (j * 5 + 1)
   have f2 := hC.frozen (j * 5 + 2)
   have f3 := hC.frozen (j * 5 + 3)
   have HC := hid hC
   clear hC L1 HMS hm1 g1 HL HMP
   go_wp2_with fail
   obtain ⟨W3, hW3⟩ : ∃ W3, ((w1.setCell ⟨b, j * 5 + 1, none⟩ (.bool ((m1 : Int) % 3 == 0))).setCell ⟨b, j * 5 + 2, none⟩ (.int .i64 ((m1 : Int) + 1))).setCell ⟨b, j * 5 + 2 + 1, none⟩ (.int .i64 ((m1 : Int) + 1 + 1)) = W3 := ⟨_, rfl⟩
   rw [hW3]
   have L3 : LIn w W3 lo hi b l P Q G k0 (j + 1) j := by rw [← hW3]; exact ((HL1.out.set HW.out _ _ (by omega)).set HW.out _ _ (by omega)).set HW.out _ _ (by omega)
   have C3 := ((HC.out.set (j * 5 + 1) (.bool ((m1 : Int) % 3 == 0))).set (j * 5 + 2) (.int .i64 ((m1 : Int) + 1))).set (j * 5 + 2 + 1) (.int .i64 ((m1 : Int) + 1 + 1))
   rw [hW3] at C3
   have MT := markTextC (m1 + 3) W3 (by omega)
   have e3 : ((m1 + 3 : Nat) : Int) = (m1 : Int) + 1 + 1 + 1 := by omega
   rw [e3] at MT
   clear hW3 c1 c2 c3 f1 f2 f3 HL1 e3
   refine MT.mono ?_
   rintro e w4 ⟨rfl, b4⟩
   have L4 := L3.below b4
   have C4 := C3.same (b4.block b C3.lt)
   have c4 := C4.cell (i := j * 5 + 4) (by omega)
   have f4 := C4.frozen (j * 5 + 4)
   have C5 := C4.set (j * 5 + 4) (.string (mkT (m1 + 3)))
   have HL5 : Hid (LIn w (w4.setCell ⟨b, j * 5 + 4, none⟩ (.string (mkT (m1 + 3)))) lo hi b l P Q G k0 (j + 1) (j + 1)) := hid (by
    refine HCE.out _ ?_ ?_ ?_ ?_ (L4.set HW.out _ _ (by omega))
    ·rw [C5.cell (i := j * 5 + 1) (by omega)]; simp
    ·rw [C5.cell (i := j * 5 + 2) (by omega)]; simp
    ·rw [C5.cell (i := j * 5 + 3) (by omega)]; simp; omega
    ·rw [C5.cell (i := j * 5 + 4) (by omega)]; simp)
   obtain ⟨t4, ht4⟩ : ∃ t4, mkT (m1 + 3) = t4 := ⟨_, rfl⟩
   rw [ht4] at HL5
   rw [ht4]
   clear C5 C4 C3 L4 L3 b4 MT ht4 HC HCE
   go_wp2_with fail
   go_roundw
   case rel => exact ⟨j + 1, m1 + 4, hlt, by go_num, by go_num, HNX, HL5⟩
   case measure => simp [intOf]; omega
  ·obtain rfl : j = l.length := by omega
   have HE := HM
   clear HM
   go_wp2_with fail
   go_ret
   exact ⟨by rw [HE.out]; rfl, HL.out⟩
theorem heldRunS (a : Option Addr) (n cap k0 : Nat) (w : World) (hk0 : k0 ≤ 9000000000000) (hn1 : n ≤ 1000000000) (h : RSeg w a n (mk3 k0 0) (mk3 k0 1) (mk3 k0 2)) :
  Calls Tryz.prog 64 #[.slice a n cap, .int .i64 (k0 : Int)] w fun e w' => e = .returned (.int .i64 ((k0 + 3 * n : Nat) : Int)) ∧ w' = w := by
 rcases h with h | ⟨b, off, rfl, hb, hc⟩
 ·subst h
  go_enter Tryz.func64, Tryz.ntmps64
  go_wp2
  refine wp_loop_rounds 1 ?_; rw [rounds_succ]; go_wp2
  go_ret
  exact ⟨rfl, rfl⟩
 ·go_enter Tryz.func64, Tryz.ntmps64
  go_wp2
  go_loop [1, 5] (fun k i => ∃ (j m : Nat), j ≤ n ∧ Hid (m = k0 + 3 * j) ∧ i = .int .i64 (j : Int) ∧ k = .int .i64 (m : Int)) (fun _ i => n - (intOf i).toNat)
  case atStart => exact ⟨0, k0, Nat.zero_le _, hid (by omega), rfl, rfl⟩
  case round =>
   obtain ⟨j, m, hj, hm, rfl, rfl⟩ := hrel
   by_cases hlt : j < n
   ·have h0 : w.cell? ⟨b, off + j * 3, none⟩ = some (.int .i64 (m : Int)) := by rw [(hc j hlt).1]; unfold mk3; have := hm.out; congr 2; omega
    have h1 : w.cell? ⟨b, off + j * 3 + 1, none⟩ = some (.int .i64 ((m : Int) + 1)) := by rw [(hc j hlt).2.1]; unfold mk3; have := hm.out; congr 2; omega
    have h2 : w.cell? ⟨b, off + j * 3 + 2, none⟩ = some (.int .i64 ((m : Int) + 1 + 1)) := by rw [(hc j hlt).2.2]; unfold mk3; have := hm.out; congr 2; omega
    have hmb : m ≤ 9000000000000 + 3000000000 := by have := hm.out; omega
    clear hc
    go_wp2
    go_round
    case rel => exact ⟨j + 1, m + 3, hlt, hid (by have := hm.out; omega), by go_num, by go_num⟩
    case measure => simp [intOf]; omega
   ·obtain rfl : j = n := by omega
    clear hc
    have e := hm.out
    clear hm
    subst e
    go_wp2
    go_ret
    exact ⟨by simp, rfl⟩
theorem heldContext (a : Option Addr) (n cap k0 : Nat) (w : World) (hk0 : k0 ≤ 9000000000000) (hn1 : n ≤ 1000000000) (h : RSeg w a n (mk3 k0 0) (mk3 k0 1) (mk3 k0 2)) :
  Calls Tryz.prog 37 #[.agg #[.slice a n cap], .int .i64 (k0 : Int)] w fun e w' => e = .returned (.int .i64 ((k0 + 3 * n : Nat) : Int)) ∧ Below w.heap.size w w' := by
 have HB0 : Hid (Below w.heap.size w (w.alloc (.cells #[.slice a n cap] 34))) := (Below.refl _ _).alloc (Nat.le_refl _) _
 go_enter Tryz.func37, Tryz.ntmps37
 go_wp2_with fail
 refine (heldRunS a n cap k0 _ hk0 hn1 (h.below HB0.out)).mono ?_
 rintro e w1 ⟨rfl, rfl⟩
 go_wp2_with fail
 go_ret
 exact ⟨by simp, HB0.out⟩
theorem markRun0 (a : Option Addr) (cap k0 : Nat) (w : World) :
  Calls Tryz.prog 62 #[.slice a 0 cap, .int .i64 (k0 : Int)] w fun e w' => e = .returned (.int .i64 (k0 : Int)) ∧ w' = w := by
 go_enter Tryz.func62, Tryz.ntmps62
 go_wp2
 refine wp_loop_rounds 1 ?_; rw [rounds_succ]; go_wp2
 go_ret
 exact ⟨rfl, rfl⟩
theorem markContext0 (a : Option Addr) (cap k0 : Nat) (w : World) (hk0 : k0 ≤ 9000000000000) :
  Calls Tryz.prog 34 #[.agg #[.slice a 0 cap], .int .i64 (k0 : Int)] w fun e w' => e = .returned (.int .i64 (k0 : Int)) ∧ Below w.heap.size w w' := by
 have HB0 : Hid (Below w.heap.size w (w.alloc (.cells #[.slice a 0 cap] 34))) := (Below.refl _ _).alloc (Nat.le_refl _) _
 go_enter Tryz.func34, Tryz.ntmps34
 go_wp2_with fail
 refine (markRun0 a cap k0 _).mono ?_
 rintro e w1 ⟨rfl, rfl⟩
 go_wp2_with fail
 go_ret
 exact ⟨rfl, HB0.out⟩
end Go.Proofs.YtcbcabhjododoaaGreat
