import Derived.Test.YtbocofbigjbhgaaGreatNg04
import Derived.Laws.BytesArg
import Derived.Laws.Concat
set_option linter.unusedVariables false
set_option linter.unusedSimpArgs false

namespace Go.Proofs.YtbocofbigjbhgaaGreat
open Go.ChangeShapes Go.WideShapes Go.ChangeAt Go.RowKit
def digF : Nat → Nat → ByteArray → ByteArray
  | 0, _, s => s
  | n + 1, k, s => if k = 0 then s else digF n (k / 10) (strOfNums [48 + (k : Int) % 10] ++ s)
def mkT (k : Nat) : ByteArray := if k = 0 then ⟨#[109, 48]⟩ else ⟨#[109]⟩ ++ digF k k ByteArray.empty
theorem digF_zero {n : Nat} {s : ByteArray} : digF n 0 s = s := by cases n <;> simp [digF]
theorem digF_step {n k : Nat} {s : ByteArray} (hk : 0 < k) (hn : k ≤ n) : digF n k s = digF (n - 1) (k / 10) (strOfNums [48 + (k : Int) % 10] ++ s) := by
  obtain ⟨m, rfl⟩ : ∃ m, n = m + 1 := ⟨n - 1, by omega⟩
  simp only [digF, Nat.add_sub_cancel]; rw [if_neg (by omega)]
set_option maxRecDepth 100000 in
set_option maxHeartbeats 1000000 in
theorem markTextC (k : Nat) (w : World) (hk : k ≤ 10000000000000) :
    Calls Tryz.prog 62 #[.int .i64 (k : Int)] w fun e w' => e = .returned (.string (mkT k)) ∧ Below w.heap.size w w' := by
  by_cases h0 : k = 0
  · subst h0
    go_enter Tryz.func62, Tryz.ntmps62
    go_wp2_with fail
    go_ret
    exact ⟨rfl, Below.refl _ _⟩
  · have d0 : decide ((k : Int) ≤ 0) = false := by simp; omega
    have d1 : decide (k ≤ 0) = false := by simp; omega
    go_enter Tryz.func62, Tryz.ntmps62
    go_wp2_with fail
    go_loopw [0, 3] (fun q s wr => ∃ (j n : Nat) (t : ByteArray), j ≤ n ∧ j ≤ k ∧ q = .int .i64 (j : Int) ∧ s = .string t ∧ Hid (digF k k ByteArray.empty = digF n j t) ∧ t.size + n ≤ 10000000000000 + 1 ∧ Hid (Below w.heap.size w wr)) (fun q _ _ => (intOf q).toNat)
    case atStart => exact ⟨k, k, ByteArray.empty, Nat.le_refl _, Nat.le_refl _, rfl, rfl, hid rfl, by simp; omega, hid (Below.refl _ _)⟩
    case round =>
      obtain ⟨j, n, t, hj, hjk, rfl, rfl, HE, hts, HB⟩ := hrel
      by_cases hp : 0 < j
      · have p1 : decide (0 < (j : Int)) = true := by simp; omega
        have p2 : decide (0 < j) = true := by simp; omega
        have hcv := run_convert_bytes_arg (P := Tryz.prog) (wr.alloc (.cells #[.int .u8 (48 + (j : Int) % 10)] 5)) 137 5 Tryz.underlying137 Tryz.underlying5 wr.heap.size 0 1 1 [48 + (j : Int) % 10] rfl (fun i hi => by (obtain rfl : i = 0 := (by omega)); simp) 9 Tryz.underlying9
        have hsz := strOfNums_size [48 + (j : Int) % 10]
        have HE2 : Hid (digF k k ByteArray.empty = digF (n - 1) (j / 10) (strOfNums [48 + (j : Int) % 10] ++ t)) := hid (by rw [HE.out, digF_step hp hj])
        obtain ⟨D, hD⟩ : ∃ D, strOfNums [48 + (j : Int) % 10] = D := ⟨_, rfl⟩
        rw [hD] at hcv hsz HE2
        have hsz1 : D.size = 1 := hsz
        obtain ⟨m, hm⟩ : ∃ m, j / 10 = m := ⟨_, rfl⟩
        have hq : IntKind.i64.wrap ((j : Int).tdiv 10) = (m : Int) := by rw [IntKind.wrap_i64, Int.tdiv_eq_ediv_of_nonneg (by omega)]; omega
        rw [hm] at HE2
        have hmj : m < j := by omega
        have HMJ := hid hm
        clear hm
        have hadd := fun w => run_string_add_sum (P := Tryz.prog) (w := w) D t (by omega)
        have HB2 := hid (HB.out.alloc HB.out.size (.cells #[.int .u8 (48 + (j : Int) % 10)] 5))
        clear hD hsz
        go_wp2_with fail
        go_roundw
        case rel => exact ⟨m, n - 1, D ++ t, by omega, by omega, by have := HMJ.out; congr 1; omega, rfl, HE2, by rw [ByteArray.size_append]; omega, HB2⟩
        case measure => simp [intOf]; omega
      · obtain rfl : j = 0 := by omega
        have HT : Hid (mkT k = ⟨#[109]⟩ ++ t) := hid (by unfold mkT; rw [if_neg h0, HE.out, digF_zero])
        have hadd := fun w => run_string_add_sum (P := Tryz.prog) (w := w) ⟨#[109]⟩ t (by have : (⟨#[109]⟩ : ByteArray).size = 1 := rfl; omega)
        go_wp2_with fail
        go_ret
        exact ⟨by rw [HT.out]; rfl, HB.out⟩
theorem heap_set_same {w : World} {g i : Nat} {cur : Array Value} {t : TypeId} {f : Nat × Nat} {u : Value} (h : w.heap[g]? = some (.cells cur t f)) : (w.setCell ⟨g, i, none⟩ u).heap[g]? = some (.cells (cur.setIfInBounds i u) t f) := by
  simp [World.setCell, Array.getElem?_modify, h]
def Wr (w : World) (g : Nat) (t : TypeId) (n : Nat) (C : Nat → Value) : Prop := ∃ cur, w.heap[g]? = some (.cells cur t (0, 0)) ∧ n ≤ cur.size ∧ ∀ i, i < n → cur[i]? = some (C i)
theorem Wr.cell {w : World} {g n : Nat} {t : TypeId} {C : Nat → Value} (h : Wr w g t n C) {i : Nat} (hi : i < n) : w.cell? ⟨g, i, none⟩ = some (C i) := by
  obtain ⟨cur, h1, h2, h3⟩ := h
  simp [World.cell?, h1, h3 i hi]
theorem Wr.frozen {w : World} {g n : Nat} {t : TypeId} {C : Nat → Value} (h : Wr w g t n C) (i : Nat) : w.frozen? ⟨g, i, none⟩ = false := by
  obtain ⟨cur, h1, h2, h3⟩ := h
  simp [World.frozen?, h1]
theorem Wr.set {w : World} {g n : Nat} {t : TypeId} {C : Nat → Value} (h : Wr w g t n C) (i : Nat) (u : Value) : Wr (w.setCell ⟨g, i, none⟩ u) g t n (fun j => if j = i then u else C j) := by
  obtain ⟨cur, h1, h2, h3⟩ := h
  refine ⟨_, heap_set_same h1, by simpa using h2, fun j hj => ?_⟩
  rw [Array.getElem?_setIfInBounds]
  by_cases e : i = j
  · subst e; rw [if_pos rfl, if_pos (by omega)]; simp
  · rw [if_neg e]; show cur[j]? = some (if j = i then u else C j); rw [if_neg (Ne.symm e)]; exact h3 j hj
theorem Wr.same {w w' : World} {g n : Nat} {t : TypeId} {C : Nat → Value} (h : Wr w g t n C) (e : w'.heap[g]? = w.heap[g]?) : Wr w' g t n C := by
  obtain ⟨cur, h1, r⟩ := h; exact ⟨cur, e.trans h1, r⟩
theorem Wr.ext {w : World} {g n : Nat} {t : TypeId} {C C' : Nat → Value} (h : Wr w g t n C) (e : ∀ i, i < n → C i = C' i) : Wr w g t n C' := by
  obtain ⟨cur, h1, h2, h3⟩ := h; exact ⟨cur, h1, h2, fun i hi => by rw [← e i hi]; exact h3 i hi⟩
theorem Wr.lt {w : World} {g n : Nat} {t : TypeId} {C : Nat → Value} (h : Wr w g t n C) : g < w.heap.size := by
  obtain ⟨cur, h1, _⟩ := h; exact (Array.getElem?_eq_some_iff.1 h1).1
theorem PMk.wr {w : World} {g n : Nat} (h : PMk w g n) : ∃ C, Wr w g 9 n C := by
  obtain ⟨cur, h1, h2⟩ := h
  exact ⟨fun i => cur.getD i default, cur, h1, h2, fun i hi => by simp [Array.getD, show i < cur.size by omega]⟩
theorem Wr.pmk {w : World} {g n : Nat} {C : Nat → Value} (h : Wr w g 9 n C) : PMk w g n := by
  obtain ⟨cur, h1, h2, _⟩ := h; exact ⟨cur, h1, h2⟩
theorem PMk.any {w : World} {g n b i : Nat} {u : Value} (h : PMk w g n) : PMk (w.setCell ⟨b, i, none⟩ u) g n := by
  by_cases e : b = g
  · subst e
    obtain ⟨cur, h1, h2⟩ := h
    exact ⟨_, heap_set_same h1, by simpa using h2⟩
  · exact h.set _ _ (Ne.symm e)
theorem grown_set {w w' : World} {g : Nat} (h : w.grownBy w' (some g)) (i : Nat) (u : Value) : w.grownBy (w'.setCell ⟨g, i, none⟩ u) (some g) :=
  ⟨h.os, h.tape, h.output, by simpa [World.setCell] using h.size, fun k hk hne => (Below.heap_setCell _ _ _ _ (fun e => hne (by rw [e]))).trans (h.block k hk hne)⟩
theorem grown_below {w w1 w' : World} {g : Nat} (h : w.grownBy w1 (some g)) (hb : Below w1.heap.size w1 w') : w.grownBy w' (some g) :=
  ⟨hb.os.trans h.os, hb.tape.trans h.tape, hb.output.trans h.output, Nat.le_trans h.size hb.size, fun k hk hne => (hb.block k (Nat.lt_of_lt_of_le hk h.size)).trans (h.block k hk hne)⟩
theorem grown_refl {w : World} (r : Option Nat) : w.grownBy w r := ⟨rfl, rfl, rfl, Nat.le_refl _, fun _ _ _ => rfl⟩
set_option maxRecDepth 100000 in
set_option maxHeartbeats 1000000 in
theorem markStrings (g n c k0 : Nat) (C : Nat → Value) (w : World) (hk : k0 + n ≤ 10000000000000) (h : Wr w g 9 n C) :
    Calls Tryz.prog 61 #[.slice (some ⟨g, 0, none⟩) n c, .int .i64 (k0 : Int)] w fun e w' => e = .returned (.int .i64 ((k0 + n : Nat) : Int)) ∧ w.grownBy w' (some g) ∧ Wr w' g 9 n (fun i => .string (mkT (k0 + i))) ∧ ∀ g' n', PMk w g' n' → PMk w' g' n' := by
  have HW := hid h
  clear h
  go_enter Tryz.func61, Tryz.ntmps61
  go_wp2_with fail
  go_loopw [1, 5] (fun q i wr => ∃ (j m : Nat), j ≤ n ∧ m = k0 + j ∧ i = .int .i64 (j : Int) ∧ q = .int .i64 (m : Int) ∧ Hid (w.grownBy wr (some g)) ∧ Hid (Wr wr g 9 n (fun t => if t < j then .string (mkT (k0 + t)) else C t)) ∧ Hid (∀ g' n', PMk w g' n' → PMk wr g' n')) (fun _ i _ => n - (intOf i).toNat)
  case atStart => exact ⟨0, k0, Nat.zero_le _, rfl, rfl, rfl, hid (grown_refl _), hid (HW.out.ext fun i _ => by simp), hid (fun _ _ h => h)⟩
  case round =>
    obtain ⟨j, m, hj, hm, rfl, rfl, HG, HC, HPM⟩ := hrel
    by_cases hlt : j < n
    · have i1 : (0 : Int) ≤ (j : Int) := Int.natCast_nonneg _
      have i2 : (j : Int) < (n : Int) := by omega
      have HT := hid (markTextC m wr (by omega))
      have HM := hid hm
      obtain ⟨s, hs⟩ : ∃ s, mkT m = s := ⟨_, rfl⟩
      rw [hs] at HT
      have HS := hid hs
      clear hs hm
      go_wp2_with fail
      refine HT.out.mono ?_
      rintro e w1 ⟨rfl, b1⟩
      have W1 := HC.out.same (b1.block g HC.out.lt)
      have c0 := W1.cell hlt
      have f0 := W1.frozen j
      rw [if_neg (by omega)] at c0
      have HG1 := hid (grown_set (grown_below HG.out b1) j (.string s))
      have HC1 := hid (W1.set j (.string s))
      have HPM1 : Hid (∀ g' n', PMk w g' n' → PMk (w1.setCell ⟨g, j, none⟩ (.string s)) g' n') := hid (fun g' n' h => by
        have h1 := HPM.out g' n' h
        obtain ⟨cur, h2, h3⟩ := h1
        exact PMk.any ⟨cur, (b1.block g' (Array.getElem?_eq_some_iff.1 h2).1).trans h2, h3⟩)
      have hm1 : (m : Int) + 1 ≤ 9223372036854775807 := by have := HM.out; omega
      clear b1 HT W1
      obtain ⟨v0, hv0⟩ : ∃ v0, C j = v0 := ⟨_, rfl⟩
      rw [hv0] at c0
      clear hv0
      go_wp2_with fail
      go_roundw
      case rel =>
        refine ⟨j + 1, m + 1, hlt, by have := HM.out; omega, by go_num, by go_num, HG1, hid (HC1.out.ext fun i hi => ?_), HPM1⟩
        by_cases e : i = j
        · subst e; rw [if_pos rfl, if_pos (by omega), ← HS.out, HM.out]
        · rw [if_neg e]
          by_cases e2 : i < j
          · rw [if_pos e2, if_pos (by omega)]
          · rw [if_neg e2, if_neg (by omega)]
      case measure => simp [intOf]; omega
    · obtain rfl : j = n := by omega
      have HC1 := hid (HC.out.ext (C' := fun i => .string (mkT (k0 + i))) fun i hi => if_pos hi)
      have HM := hid hm
      clear hm HC
      go_wp2_with fail
      go_ret
      exact ⟨by rw [← HM.out]; rfl, HG.out, HC1.out, HPM.out⟩
structure Btw (lo hi : Nat) (w w' : World) : Prop where
  os : w'.os = w.os
  tape : w'.tape = w.tape
  output : w'.output = w.output
  size : w.heap.size ≤ w'.heap.size
  block : ∀ g, g < w.heap.size → (g < lo ∨ hi ≤ g) → w'.heap[g]? = w.heap[g]?
theorem Btw.refl (lo hi : Nat) (w : World) : Btw lo hi w w := ⟨rfl, rfl, rfl, Nat.le_refl _, fun _ _ _ => rfl⟩
theorem Btw.trans {lo hi : Nat} {a b c : World} (h : Btw lo hi a b) (k : Btw lo hi b c) : Btw lo hi a c :=
  ⟨k.os.trans h.os, k.tape.trans h.tape, k.output.trans h.output, Nat.le_trans h.size k.size, fun g hg ho => (k.block g (Nat.lt_of_lt_of_le hg h.size) ho).trans (h.block g hg ho)⟩
theorem Btw.of {lo hi g : Nat} {w w' : World} (h : w.grownBy w' (some g)) (h1 : lo ≤ g) (h2 : g < hi) : Btw lo hi w w' :=
  ⟨h.os, h.tape, h.output, h.size, fun k hk ho => h.block k hk (fun e => by injection e with e; omega)⟩
theorem Btw.below {lo hi : Nat} {w w' : World} (h : Below w.heap.size w w') : Btw lo hi w w' := ⟨h.os, h.tape, h.output, h.size, fun k hk _ => h.block k hk⟩
theorem Btw.set {lo hi : Nat} {w w' : World} (h : Btw lo hi w w') (q : Addr) (u : Value) (h1 : lo ≤ q.block) (h2 : q.block < hi) : Btw lo hi w (w'.setCell q u) :=
  ⟨h.os, h.tape, h.output, by simpa [World.setCell] using h.size, fun g hg ho => (Below.heap_setCell _ _ _ _ (by omega)).trans (h.block g hg ho)⟩
theorem Btw.low {lo hi : Nat} {w w' : World} (h : Btw lo hi w w') (hl : lo ≤ w.heap.size) : Below lo w w' := ⟨h.os, h.tape, h.output, h.size, fun g hg => h.block g (by omega) (.inl hg)⟩
structure LTo (w : World) (lo hi b : Nat) (l : List Lf) (j : Nat) : Prop where
  wr : ∃ C, Wr w b 74 (l.length * 5) C
  paths : ∀ i, j ≤ i → i < l.length → ∃ g, w.cell? ⟨b, i * 5, none⟩ = some (.slice (some ⟨g, 0, none⟩) (gL l i).p.length (gL l i).p.length) ∧ g ≠ b ∧ lo ≤ g ∧ g < hi
  str : ∀ i, j ≤ i → i < l.length → ∀ g n c, w.cell? ⟨b, i * 5, none⟩ = some (.slice (some ⟨g, 0, none⟩) n c) → PMk w g (gL l i).p.length
theorem LTo.set {w : World} {lo hi b o : Nat} {l : List Lf} {j : Nat} (h : LTo w lo hi b l j) (u : Value) (ho : o < j * 5) : LTo (w.setCell ⟨b, o, none⟩ u) lo hi b l j := by
  obtain ⟨C, hC⟩ := h.wr
  have q : ∀ i, j ≤ i → (w.setCell ⟨b, o, none⟩ u).cell? ⟨b, i * 5, none⟩ = w.cell? ⟨b, i * 5, none⟩ := fun i hi => by
    have : o ≠ i * 5 := by omega
    simp [World.cell?_setCell_other, this]
  refine ⟨⟨_, hC.set o u⟩, fun i h1 h2 => ?_, fun i h1 h2 g n c hc => ?_⟩
  · rw [q i h1]; exact h.paths i h1 h2
  · rw [q i h1] at hc; exact (h.str i h1 h2 g n c hc).any
theorem LTo.grown {w w' : World} {lo hi b g : Nat} {l : List Lf} {j : Nat} (h : LTo w lo hi b l j) (hg : w.grownBy w' (some g)) (hb : g ≠ b) (hp : ∀ g' n', PMk w g' n' → PMk w' g' n') : LTo w' lo hi b l j := by
  obtain ⟨C, hC⟩ := h.wr
  have e : w'.heap[b]? = w.heap[b]? := hg.block b hC.lt (fun e => hb (by injection e with e; exact e.symm))
  have q : ∀ i, w'.cell? ⟨b, i * 5, none⟩ = w.cell? ⟨b, i * 5, none⟩ := fun i => World.cell?_of_block (a := ⟨b, i * 5, none⟩) e
  refine ⟨⟨C, hC.same e⟩, fun i h1 h2 => ?_, fun i h1 h2 g n c hc => ?_⟩
  · rw [q i]; exact h.paths i h1 h2
  · rw [q i] at hc; exact hp _ _ (h.str i h1 h2 g n c hc)
theorem LTo.below {w w' : World} {lo hi b : Nat} {l : List Lf} {j : Nat} (h : LTo w lo hi b l j) (hb : Below w.heap.size w w') : LTo w' lo hi b l j := by
  obtain ⟨C, hC⟩ := h.wr
  have e := hb.block b hC.lt
  have q : ∀ i, w'.cell? ⟨b, i * 5, none⟩ = w.cell? ⟨b, i * 5, none⟩ := fun i => World.cell?_of_block (a := ⟨b, i * 5, none⟩) e
  refine ⟨⟨C, hC.same e⟩, fun i h1 h2 => ?_, fun i h1 h2 g n c hc => ?_⟩
  · rw [q i]; exact h.paths i h1 h2
  · rw [q i] at hc
    obtain ⟨cur, h3, h4⟩ := h.str i h1 h2 g n c hc
    exact ⟨cur, (hb.block g (Array.getElem?_eq_some_iff.1 h3).1).trans h3, h4⟩
end Go.Proofs.YtbocofbigjbhgaaGreat

namespace Go.Proofs.YtbocofbigjbhgaaGreat
open Go.ChangeShapes Go.WideShapes Go.ChangeAt Go.RowKit
def mP (l : List Lf) (k0 : Nat) : Nat → Nat
  | 0 => k0
  | i + 1 => mP l k0 i + (gL l i).p.length + 4
def mLf (k n : Nat) : Lf := ⟨(List.range n).map fun t => mkT (k + t), ((k + n : Nat) : Int) % 3 == 0, ((k + n + 1 : Nat) : Int), ((k + n + 2 : Nat) : Int), mkT (k + n + 3)⟩
def mkL (l : List Lf) (k0 : Nat) : List Lf := (List.range l.length).map fun i => mLf (mP l k0 i) (gL l i).p.length
theorem mkL_len (l : List Lf) (k0 : Nat) : (mkL l k0).length = l.length := by simp [mkL]
theorem mkL_at (l : List Lf) (k0 : Nat) {i : Nat} (hi : i < l.length) : gL (mkL l k0) i = mLf (mP l k0 i) (gL l i).p.length := by simp [gL, mkL, List.getD, hi]
theorem mLf_len (k n : Nat) : (mLf k n).p.length = n := by simp [mLf]
theorem mLf_s (k n : Nat) {t : Nat} (ht : t < n) : gS (mLf k n).p t = mkT (k + t) := by simp [gS, mLf, List.getD, ht]
structure LWy (lo hi b : Nat) (l : List Lf) (P : Nat → Option Addr) (G : Nat → Nat) : Prop where
  b1 : lo ≤ b
  b2 : b < hi
  g1 : ∀ i, i < l.length → 0 < (gL l i).p.length → P i = some ⟨G i, 0, none⟩ ∧ G i ≠ b ∧ lo ≤ G i ∧ G i < hi
  sep : ∀ i j, i < l.length → j < l.length → 0 < (gL l i).p.length → 0 < (gL l j).p.length → i ≠ j → G i ≠ G j
structure LIn (w0 w : World) (lo hi b : Nat) (l : List Lf) (P : Nat → Option Addr) (Q G : Nat → Nat) (k0 js jc : Nat) : Prop where
  low : Btw lo hi w0 w
  run : ∀ (q : Nat) (cur : Array Value), w0.heap[q]? = some (Obj.cells cur 76 (0, 0)) → w.heap[q]? = w0.heap[q]?
  wr : ∃ C, Wr w b 74 (l.length * 5) C
  pth : ∀ i, i < l.length → w.cell? ⟨b, i * 5, none⟩ = some (.slice (P i) (gL l i).p.length (Q i))
  todo : ∀ i, js ≤ i → i < l.length → 0 < (gL l i).p.length → PMk w (G i) (gL l i).p.length
  done : ∀ i, i < js → i < l.length → 0 < (gL l i).p.length → Wr w (G i) 9 (gL l i).p.length (fun t => .string (mkT (mP l k0 i + t)))
  cel : ∀ i, i < jc → i < l.length → w.cell? ⟨b, i * 5 + 1, none⟩ = some (.bool (mLf (mP l k0 i) (gL l i).p.length).fl) ∧ w.cell? ⟨b, i * 5 + 2, none⟩ = some (.int .i64 (mLf (mP l k0 i) (gL l i).p.length).r) ∧ w.cell? ⟨b, i * 5 + 3, none⟩ = some (.int .i64 (mLf (mP l k0 i) (gL l i).p.length).q) ∧ w.cell? ⟨b, i * 5 + 4, none⟩ = some (.string (mLf (mP l k0 i) (gL l i).p.length).v)
theorem LIn.below {w0 w w' : World} {lo hi b : Nat} {l : List Lf} {P : Nat → Option Addr} {Q G : Nat → Nat} {k0 js jc : Nat} (h : LIn w0 w lo hi b l P Q G k0 js jc) (hb : Below w.heap.size w w') : LIn w0 w' lo hi b l P Q G k0 js jc := by
  obtain ⟨C, hC⟩ := h.wr
  have e := hb.block b hC.lt
  have q : ∀ i, w'.cell? ⟨b, i, none⟩ = w.cell? ⟨b, i, none⟩ := fun i => World.cell?_of_block (a := ⟨b, i, none⟩) e
  refine ⟨h.low.trans (Btw.below hb), fun q cur hq => (hb.block q (Nat.lt_of_lt_of_le (Array.getElem?_eq_some_iff.1 hq).1 h.low.size)).trans (h.run q cur hq), ⟨C, hC.same e⟩, fun i hi => (q _).trans (h.pth i hi), fun i h1 h2 h3 => ?_, fun i h1 h2 h3 => ?_, fun i h1 h2 => ?_⟩
  · obtain ⟨cur, k1, k2⟩ := h.todo i h1 h2 h3
    exact ⟨cur, (hb.block _ (Array.getElem?_eq_some_iff.1 k1).1).trans k1, k2⟩
  · exact (h.done i h1 h2 h3).same (hb.block _ (h.done i h1 h2 h3).lt)
  · rw [q, q, q, q]; exact h.cel i h1 h2
theorem LIn.set {w0 w : World} {lo hi b : Nat} {l : List Lf} {P : Nat → Option Addr} {Q G : Nat → Nat} {k0 js jc : Nat} (hw : LWy lo hi b l P G) (h : LIn w0 w lo hi b l P Q G k0 js jc) (o : Nat) (u : Value) (ho : jc * 5 < o ∧ o < jc * 5 + 5) : LIn w0 (w.setCell ⟨b, o, none⟩ u) lo hi b l P Q G k0 js jc := by
  obtain ⟨C, hC⟩ := h.wr
  have q : ∀ i, i ≠ o → (w.setCell ⟨b, o, none⟩ u).cell? ⟨b, i, none⟩ = w.cell? ⟨b, i, none⟩ := fun i hi => by simp [World.cell?_setCell_other, Ne.symm hi]
  refine ⟨h.low.set _ _ hw.b1 hw.b2, fun q cur hq => ?_, ⟨_, hC.set o u⟩, fun i hi => (q _ (by omega)).trans (h.pth i hi), fun i h1 h2 h3 => (h.todo i h1 h2 h3).any, fun i h1 h2 h3 => ?_, fun i h1 h2 => ?_⟩
  · refine (Below.heap_setCell _ _ _ _ ?_).trans (h.run q cur hq)
    intro e
    have e' : q = b := e
    subst e'
    obtain ⟨cur', k1, _⟩ := hC
    rw [h.run _ _ hq, hq] at k1
    injection k1 with k1
    injection k1 with _ k2
    exact absurd k2 (by decide)
  · exact (h.done i h1 h2 h3).same (Below.heap_setCell _ _ _ _ (hw.g1 i h2 h3).2.1)
  · rw [q _ (by omega), q _ (by omega), q _ (by omega), q _ (by omega)]; exact h.cel i h1 h2
theorem LIn.str {w0 w w' : World} {lo hi b : Nat} {l : List Lf} {P : Nat → Option Addr} {Q G : Nat → Nat} {k0 js : Nat} (hw : LWy lo hi b l P G) (h : LIn w0 w lo hi b l P Q G k0 js js) (hj : js < l.length) (h0 : 0 < (gL l js).p.length) (hg : w.grownBy w' (some (G js))) (hc : Wr w' (G js) 9 (gL l js).p.length (fun t => .string (mkT (mP l k0 js + t)))) (hpm : ∀ g' n', PMk w g' n' → PMk w' g' n') : LIn w0 w' lo hi b l P Q G k0 (js + 1) js := by
  obtain ⟨C, hC⟩ := h.wr
  have hs := hw.g1 js hj h0
  have e := hg.block b hC.lt (fun e => hs.2.1 (by injection e with e; exact e.symm))
  have q : ∀ i, w'.cell? ⟨b, i, none⟩ = w.cell? ⟨b, i, none⟩ := fun i => World.cell?_of_block (a := ⟨b, i, none⟩) e
  refine ⟨h.low.trans (Btw.of hg hs.2.2.1 hs.2.2.2), fun q cur hq => ?_, ⟨C, hC.same e⟩, fun i hi => (q _).trans (h.pth i hi), fun i h1 h2 h3 => hpm _ _ (h.todo i (by omega) h2 h3), fun i h1 h2 h3 => ?_, fun i h1 h2 => ?_⟩
  · refine (hg.block q (Nat.lt_of_lt_of_le (Array.getElem?_eq_some_iff.1 hq).1 h.low.size) (fun e => ?_)).trans (h.run q cur hq)
    injection e with e
    subst e
    obtain ⟨cur', k1, _⟩ := h.todo js (Nat.le_refl _) hj h0
    rw [h.run _ _ hq, hq] at k1
    injection k1 with k1
    injection k1 with _ k2
    exact absurd k2 (by decide)
  · by_cases ei : i = js
    · subst ei; exact hc
    · have hd := h.done i (by omega) h2 h3
      exact hd.same (hg.block _ hd.lt (fun e => by injection e with e; exact hw.sep i js h2 hj h3 h0 ei e))
  · rw [q, q, q, q]; exact h.cel i h1 h2
theorem LIn.skip {w0 w : World} {lo hi b : Nat} {l : List Lf} {P : Nat → Option Addr} {Q G : Nat → Nat} {k0 js jc : Nat} (h : LIn w0 w lo hi b l P Q G k0 js jc) (h0 : (gL l js).p.length = 0) : LIn w0 w lo hi b l P Q G k0 (js + 1) jc :=
  ⟨h.low, h.run, h.wr, h.pth, fun i h1 => h.todo i (by omega), fun i h1 h2 h3 => by
    by_cases ei : i = js
    · subst ei; omega
    · exact h.done i (by omega) h2 h3, h.cel⟩
theorem LIn.seg {w0 w w' : World} {lo hi b : Nat} {l : List Lf} {P : Nat → Option Addr} {Q G : Nat → Nat} {k0 : Nat} (hw : LWy lo hi b l P G) (h : LIn w0 w lo hi b l P Q G k0 l.length l.length) (hs : w.heap.size ≤ w'.heap.size) (hq : ∀ q, lo ≤ q → q < hi → q < w.heap.size → (∀ cur, w0.heap[q]? ≠ some (Obj.cells cur 76 (0, 0))) → w'.heap[q]? = w.heap[q]?) : LSeg w' (some ⟨b, 0, none⟩) (mkL l k0) := by
  obtain ⟨C, hC⟩ := h.wr
  have eb : w'.heap[b]? = w.heap[b]? := hq b hw.b1 hw.b2 hC.lt (fun cur e => by
    obtain ⟨cur', k1, _⟩ := hC
    rw [h.run _ _ e, e] at k1
    injection k1 with k1
    injection k1 with _ k2
    exact absurd k2 (by decide))
  have q : ∀ i, w'.cell? ⟨b, i, none⟩ = w.cell? ⟨b, i, none⟩ := fun i => World.cell?_of_block (a := ⟨b, i, none⟩) eb
  refine .inr ⟨b, 0, rfl, Nat.lt_of_lt_of_le hC.lt hs, fun i hi => ?_⟩
  rw [mkL_len] at hi
  have c := h.cel i hi hi
  rw [mkL_at l k0 hi, mLf_len, q, q, q, q, q]
  refine ⟨P i, Q i, by simpa using h.pth i hi, ?_, by simpa using c.1, by simpa using c.2.1, by simpa using c.2.2.1, by simpa using c.2.2.2⟩
  by_cases h0 : 0 < (gL l i).p.length
  · have hd := h.done i hi hi h0
    have eg : w'.heap[G i]? = w.heap[G i]? := hq (G i) (hw.g1 i hi h0).2.2.1 (hw.g1 i hi h0).2.2.2 hd.lt (fun cur e => by
      obtain ⟨cur', k1, _⟩ := hd
      rw [h.run _ _ e, e] at k1
      injection k1 with k1
      injection k1 with _ k2
      exact absurd k2 (by decide))
    have hd' := hd.same eg
    refine .inr ⟨G i, 0, (hw.g1 i hi h0).1, hd'.lt, fun t ht => ?_⟩
    rw [mLf_len] at ht
    rw [mLf_s _ _ ht]
    simpa using hd'.cell ht
  · exact .inl (by rw [mLf_len]; omega)
set_option maxHeartbeats 1000000 in
theorem markStrs0 (a : Option Addr) (c k0 : Nat) (w : World) : Calls Tryz.prog 61 #[.slice a 0 c, .int .i64 (k0 : Int)] w fun e w' => e = .returned (.int .i64 (k0 : Int)) ∧ w' = w := by
  go_enter Tryz.func61, Tryz.ntmps61
  go_wp2_with fail
  refine wp_loop_rounds 1 ?_; rw [rounds_succ]; go_wp2_with fail
  go_ret
  exact ⟨rfl, rfl⟩
theorem LIn.mark {w0 w : World} {lo hi b : Nat} {l : List Lf} {P : Nat → Option Addr} {Q G : Nat → Nat} {k0 js : Nat} (hw : LWy lo hi b l P G) (h : LIn w0 w lo hi b l P Q G k0 js js) (hj : js < l.length) (hk : mP l k0 js + (gL l js).p.length ≤ 10000000000000) :
    Calls Tryz.prog 61 #[.slice (P js) (gL l js).p.length (Q js), .int .i64 (mP l k0 js : Int)] w fun e w' => e = .returned (.int .i64 ((mP l k0 js + (gL l js).p.length : Nat) : Int)) ∧ LIn w0 w' lo hi b l P Q G k0 (js + 1) js := by
  by_cases h0 : 0 < (gL l js).p.length
  · obtain ⟨C, hC⟩ := (h.todo js (Nat.le_refl _) hj h0).wr
    rw [(hw.g1 js hj h0).1]
    refine (markStrings (G js) (gL l js).p.length (Q js) (mP l k0 js) C w hk hC).mono ?_
    rintro e w' ⟨rfl, g1, g2, g3⟩
    exact ⟨rfl, h.str hw hj h0 g1 g2 g3⟩
  · have hz : (gL l js).p.length = 0 := by omega
    rw [hz]
    refine (markStrs0 (P js) (Q js) (mP l k0 js) w).mono ?_
    rintro e w' ⟨rfl, rfl⟩
    exact ⟨rfl, h.skip hz⟩
end Go.Proofs.YtbocofbigjbhgaaGreat

namespace Go.Proofs.YtbocofbigjbhgaaGreat
open Go.ChangeShapes Go.WideShapes Go.ChangeAt Go.RowKit
end Go.Proofs.YtbocofbigjbhgaaGreat

