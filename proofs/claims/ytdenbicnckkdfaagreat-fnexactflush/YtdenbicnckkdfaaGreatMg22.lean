import Derived.Test.YtdenbicnckkdfaaGreatMg01
import Derived.Test.YtdenbicnckkdfaaGreatMg10
import Derived.Laws.BytesArg
import Derived.Laws.Concat
namespace Go.Proofs.YtdenbicnckkdfaaGreat
open Go.ChangeShapes Go.WideShapes Go.ChangeAt Go.RowKit
set_option linter.unusedVariables false
set_option linter.unusedSimpArgs false

def mk3 (k0 c : Nat) (i : Nat) : Int := ((k0 + 3 * i + c : Nat) : Int)

set_option maxRecDepth 100000 in
set_option maxHeartbeats 400000 in
theorem markRunS (B g n cap : Nat) (k0 : Nat) (ys : List Value) (w : World) (hk0 : k0 ≤ 9000000000000) (hn1 : n ≤ 1000000000) (ho : w.ownsRow B 71 3 (.slice (some ⟨g, 0, none⟩) n cap) n ys) :
    Calls Tryz.prog 86 #[.slice (some ⟨g, 0, none⟩) n cap, .int .i64 (k0 : Int)] w fun e w' => e = .returned (.int .i64 ((k0 + 3 * n : Nat) : Int)) ∧ Below B w w' ∧ w'.heap.size = w.heap.size ∧ RSeg w' (some ⟨g, 0, none⟩) n (mk3 k0 0) (mk3 k0 1) (mk3 k0 2) ∧ (∀ b, b ≠ g → w'.heap[b]? = w.heap[b]?) := by
  go_enter Tryz.func86, Tryz.ntmps86
  go_wp2_with fail
  go_loopw [1, 5] (fun k i wr => ∃ (j m : Nat), j ≤ n ∧ m = k0 + 3 * j ∧ i = .int .i64 (j : Int) ∧ k = .int .i64 (m : Int) ∧ Hid (Below B w wr) ∧ Hid (wr.heap.size = w.heap.size) ∧ Hid (∀ b, b ≠ g → wr.heap[b]? = w.heap[b]?) ∧ ∃ xs : List Value, Hid (wr.ownsRow B 71 3 (.slice (some ⟨g, 0, none⟩) n cap) n xs) ∧ Hid (∀ t, t < j → xs[t * 3]? = some (.int .i64 (mk3 k0 0 t)) ∧ xs[t * 3 + 1]? = some (.int .i64 (mk3 k0 1 t)) ∧ xs[t * 3 + 2]? = some (.int .i64 (mk3 k0 2 t)))) (fun _ i _ => n - (intOf i).toNat)
  case atStart => exact ⟨0, k0, Nat.zero_le _, rfl, rfl, rfl, hid (Below.refl _ _), hid rfl, hid (fun _ _ => rfl), _, hid ho, hid (fun t ht => by omega)⟩
  case round =>
    clear ho
    obtain ⟨j, m, hj, hm, rfl, rfl, hbel, hsz, hoth, xs, hown, hxs⟩ := hrel
    by_cases hlt : j < n
    · have f0 := hown.out.frozenAt (j * 3)
      have f1 := hown.out.frozenAt (j * 3 + 1)
      have f2 := hown.out.frozenAt (j * 3 + 2)
      obtain ⟨u0, hu0⟩ := owns_cell hown.out (j * 3) (by omega)
      obtain ⟨u1, hu1⟩ := owns_cell hown.out (j * 3 + 1) (by omega)
      obtain ⟨u2, hu2⟩ := owns_cell hown.out (j * 3 + 2) (by omega)
      have hlen := hown.out.1
      have HR := hid (((hown.out.stored (j * 3) (.int .i64 (m : Int))).1.stored (j * 3 + 1) (.int .i64 ((m : Int) + 1))).1.stored (j * 3 + 2) (.int .i64 ((m : Int) + 1 + 1))).1
      have HX : Hid (∀ t, t < j + 1 → (((xs.set (j * 3) (.int .i64 (m : Int))).set (j * 3 + 1) (.int .i64 ((m : Int) + 1))).set (j * 3 + 2) (.int .i64 ((m : Int) + 1 + 1)))[t * 3]? = some (.int .i64 (mk3 k0 0 t)) ∧ (((xs.set (j * 3) (.int .i64 (m : Int))).set (j * 3 + 1) (.int .i64 ((m : Int) + 1))).set (j * 3 + 2) (.int .i64 ((m : Int) + 1 + 1)))[t * 3 + 1]? = some (.int .i64 (mk3 k0 1 t)) ∧ (((xs.set (j * 3) (.int .i64 (m : Int))).set (j * 3 + 1) (.int .i64 ((m : Int) + 1))).set (j * 3 + 2) (.int .i64 ((m : Int) + 1 + 1)))[t * 3 + 2]? = some (.int .i64 (mk3 k0 2 t))) := by
        intro t ht
        by_cases htj : t = j
        · subst htj
          refine ⟨?_, ?_, ?_⟩
          · rw [List.getElem?_set_ne (by omega), List.getElem?_set_ne (by omega), List.getElem?_set_self (by omega)]; unfold mk3; congr 2; omega
          · rw [List.getElem?_set_ne (by omega), List.getElem?_set_self (by simp; omega)]; unfold mk3; congr 2; omega
          · rw [List.getElem?_set_self (by simp; omega)]; unfold mk3; congr 2; omega
        · obtain ⟨x0, x1, x2⟩ := hxs.out t (by omega)
          refine ⟨?_, ?_, ?_⟩
          · rw [List.getElem?_set_ne (by omega), List.getElem?_set_ne (by omega), List.getElem?_set_ne (by omega)]; exact x0
          · rw [List.getElem?_set_ne (by omega), List.getElem?_set_ne (by omega), List.getElem?_set_ne (by omega)]; exact x1
          · rw [List.getElem?_set_ne (by omega), List.getElem?_set_ne (by omega), List.getElem?_set_ne (by omega)]; exact x2
      have hg0 := (hown.out.lt g rfl).1
      have HB := hid (((hbel.out.setCell (p := ⟨g, j * 3, none⟩) hg0 (.int .i64 (m : Int))).setCell (p := ⟨g, j * 3 + 1, none⟩) hg0 (.int .i64 ((m : Int) + 1))).setCell (p := ⟨g, j * 3 + 2, none⟩) hg0 (.int .i64 ((m : Int) + 1 + 1)))
      have HZ : Hid ((((wr.setCell ⟨g, j * 3, none⟩ (.int .i64 (m : Int))).setCell ⟨g, j * 3 + 1, none⟩ (.int .i64 ((m : Int) + 1))).setCell ⟨g, j * 3 + 2, none⟩ (.int .i64 ((m : Int) + 1 + 1))).heap.size = w.heap.size) := by show _ = _; rw [← hsz.out]; simp [World.setCell]
      have HO : Hid (∀ b, b ≠ g → (((wr.setCell ⟨g, j * 3, none⟩ (.int .i64 (m : Int))).setCell ⟨g, j * 3 + 1, none⟩ (.int .i64 ((m : Int) + 1))).setCell ⟨g, j * 3 + 2, none⟩ (.int .i64 ((m : Int) + 1 + 1))).heap[b]? = w.heap[b]?) := fun b hb => (Below.heap_setCell _ _ _ _ hb).trans ((Below.heap_setCell _ _ _ _ hb).trans ((Below.heap_setCell _ _ _ _ hb).trans (hoth.out b hb)))
      clear hlen hg0
      have hmb : m ≤ 9000000000000 + 3000000000 := by omega
      have HM := hid hm
      clear hm
      go_wp2_with fail
      go_roundw
      case rel => exact ⟨j + 1, m + 3, hlt, by have := HM.out; omega, by go_num, by go_num, HB, HZ, HO, _, HR, HX⟩
      case measure => simp [intOf]; omega
    · obtain rfl : j = n := by omega
      have hsg : RSeg wr (some ⟨g, 0, none⟩) j (mk3 k0 0) (mk3 k0 1) (mk3 k0 2) := .inr ⟨g, 0, rfl, (hown.out.lt g rfl).2, fun i hi => by
        obtain ⟨x0, x1, x2⟩ := hxs.out i hi
        rw [Nat.zero_add, hown.out.cellAt _ (by omega), hown.out.cellAt _ (by omega), hown.out.cellAt _ (by omega)]
        exact ⟨x0, x1, x2⟩⟩
      have HR := hid hsg
      clear hsg
      subst hm
      go_wp2_with fail
      go_ret
      exact ⟨by simp, hbel.out, hsz.out, HR.out, hoth.out⟩

set_option maxRecDepth 100000 in
set_option maxHeartbeats 400000 in
theorem markContext (B g n cap : Nat) (k0 : Nat) (ys : List Value) (w : World) (hB : B ≤ w.heap.size) (hk0 : k0 ≤ 9000000000000) (hn1 : n ≤ 1000000000) (ho : w.ownsRow B 71 3 (.slice (some ⟨g, 0, none⟩) n cap) n ys) :
    Calls Tryz.prog 52 #[.agg #[.slice (some ⟨g, 0, none⟩) n cap], .int .i64 (k0 : Int)] w fun e w' => e = .returned (.int .i64 ((k0 + 3 * n : Nat) : Int)) ∧ Below B w w' ∧ RSeg w' (some ⟨g, 0, none⟩) n (mk3 k0 0) (mk3 k0 1) (mk3 k0 2) ∧ w.heap.size ≤ w'.heap.size ∧ (∀ b, b < w.heap.size → b ≠ g → w'.heap[b]? = w.heap[b]?) := by
  have HB0 : Hid (Below w.heap.size w (w.alloc (.cells #[.slice (some ⟨g, 0, none⟩) n cap] 34))) := (Below.refl _ _).alloc (Nat.le_refl _) _
  go_enter Tryz.func52, Tryz.ntmps52
  go_wp2_with fail
  refine (markRunS B g n cap k0 ys _ hk0 hn1 (ho.alloc _)).mono ?_
  rintro e w1 ⟨rfl, b1, z1, s1, o1⟩
  have hbx : w1.cell? ⟨w.heap.size, 0, none⟩ = some (.slice (some ⟨g, 0, none⟩) n cap) := by
    have hgl := (ho.lt g rfl).2
    rw [World.cell?_of_block (o1 w.heap.size (by omega))]; simp
  have HB1 := hid b1
  have HZ1 := hid z1
  have HS1 := hid s1
  have HO1 := hid o1
  clear b1 z1 s1 o1
  go_wp2_with fail
  go_ret
  refine ⟨by simp, ?_, HS1.out, ?_, fun b hb hg => (HO1.out b hg).trans (HB0.out.block b hb)⟩
  · exact (HB0.out.mono hB).trans HB1.out
  · have := HZ1.out; simp at this; omega
end Go.Proofs.YtdenbicnckkdfaaGreat

namespace Go.Proofs.YtdenbicnckkdfaaGreat
open Go.ChangeShapes Go.WideShapes Go.ChangeAt Go.RowKit
set_option linter.unusedVariables false
set_option linter.unusedSimpArgs false

def digF : Nat → Nat → ByteArray → ByteArray
  | 0, _, s => s
  | n + 1, k, s => if k = 0 then s else digF n (k / 10) (strOfNums [48 + (k : Int) % 10] ++ s)
def mkT (k : Nat) : ByteArray := if k = 0 then ⟨#[109, 48]⟩ else ⟨#[109]⟩ ++ digF k k ByteArray.empty
theorem digF_zero {n : Nat} {s : ByteArray} : digF n 0 s = s := by cases n <;> simp [digF]
theorem digF_step {n k : Nat} {s : ByteArray} (hk : 0 < k) (hn : k ≤ n) : digF n k s = digF (n - 1) (k / 10) (strOfNums [48 + (k : Int) % 10] ++ s) := by
  obtain ⟨m, rfl⟩ : ∃ m, n = m + 1 := ⟨n - 1, by omega⟩
  simp only [digF, Nat.add_sub_cancel]; rw [if_neg (by omega)]
set_option maxRecDepth 100000 in
set_option maxHeartbeats 1000000 in
theorem markTextC (k : Nat) (w : World) (hk : k ≤ 10000000000000) :
    Calls Tryz.prog 85 #[.int .i64 (k : Int)] w fun e w' => e = .returned (.string (mkT k)) ∧ Below w.heap.size w w' := by
  by_cases h0 : k = 0
  · subst h0
    go_enter Tryz.func85, Tryz.ntmps85
    go_wp2_with fail
    go_ret
    exact ⟨rfl, Below.refl _ _⟩
  · have d0 : decide ((k : Int) ≤ 0) = false := by simp; omega
    have d1 : decide (k ≤ 0) = false := by simp; omega
    go_enter Tryz.func85, Tryz.ntmps85
    go_wp2_with fail
    go_loopw [0, 3] (fun q s wr => ∃ (j n : Nat) (t : ByteArray), j ≤ n ∧ j ≤ k ∧ q = .int .i64 (j : Int) ∧ s = .string t ∧ Hid (digF k k ByteArray.empty = digF n j t) ∧ t.size + n ≤ 10000000000000 + 1 ∧ Hid (Below w.heap.size w wr)) (fun q _ _ => (intOf q).toNat)
    case atStart => exact ⟨k, k, ByteArray.empty, Nat.le_refl _, Nat.le_refl _, rfl, rfl, hid rfl, by simp; omega, hid (Below.refl _ _)⟩
    case round =>
      obtain ⟨j, n, t, hj, hjk, rfl, rfl, HE, hts, HB⟩ := hrel
      by_cases hp : 0 < j
      · have p1 : decide (0 < (j : Int)) = true := by simp; omega
        have p2 : decide (0 < j) = true := by simp; omega
        have hcv := run_convert_bytes_arg (P := Tryz.prog) (wr.alloc (.cells #[.int .u8 (48 + (j : Int) % 10)] 5)) 39 5 Tryz.underlying39 Tryz.underlying5 wr.heap.size 0 1 1 [48 + (j : Int) % 10] rfl (fun i hi => by (obtain rfl : i = 0 := (by omega)); simp) 9 Tryz.underlying9
        have hsz := strOfNums_size [48 + (j : Int) % 10]
        have HE2 : Hid (digF k k ByteArray.empty = digF (n - 1) (j / 10) (strOfNums [48 + (j : Int) % 10] ++ t)) := hid (by rw [HE.out, digF_step hp hj])
        obtain ⟨D, hD⟩ : ∃ D, strOfNums [48 + (j : Int) % 10] = D := ⟨_, rfl⟩
        rw [hD] at hcv hsz HE2
        have hsz1 : D.size = 1 := hsz
        obtain ⟨m, hm⟩ : ∃ m, j / 10 = m := ⟨_, rfl⟩
        have hq : IntKind.i64.wrap ((j : Int).tdiv 10) = (m : Int) := by rw [IntKind.wrap_i64, Int.tdiv_eq_ediv_of_nonneg (by omega)]; omega
        rw [hm] at HE2
        have hmj : m < j := by omega
        have HMJ := hid hm
        clear hm
        have hadd := fun w => run_string_add_sum (P := Tryz.prog) (w := w) D t (by omega)
        have HB2 := hid (HB.out.alloc HB.out.size (.cells #[.int .u8 (48 + (j : Int) % 10)] 5))
        clear hD hsz
        go_wp2_with fail
        go_roundw
        case rel => exact ⟨m, n - 1, D ++ t, by omega, by omega, by have := HMJ.out; congr 1; omega, rfl, HE2, by rw [ByteArray.size_append]; omega, HB2⟩
        case measure => simp [intOf]; omega
      · obtain rfl : j = 0 := by omega
        have HT : Hid (mkT k = ⟨#[109]⟩ ++ t) := hid (by unfold mkT; rw [if_neg h0, HE.out, digF_zero])
        have hadd := fun w => run_string_add_sum (P := Tryz.prog) (w := w) ⟨#[109]⟩ t (by have : (⟨#[109]⟩ : ByteArray).size = 1 := rfl; omega)
        go_wp2_with fail
        go_ret
        exact ⟨by rw [HT.out]; rfl, HB.out⟩
theorem heap_set_same {w : World} {g i : Nat} {cur : Array Value} {t : TypeId} {f : Nat × Nat} {u : Value} (h : w.heap[g]? = some (.cells cur t f)) : (w.setCell ⟨g, i, none⟩ u).heap[g]? = some (.cells (cur.setIfInBounds i u) t f) := by
  simp [World.setCell, Array.getElem?_modify, h]

def Wr (w : World) (g : Nat) (t : TypeId) (n : Nat) (C : Nat → Value) : Prop := ∃ cur, w.heap[g]? = some (.cells cur t (0, 0)) ∧ n ≤ cur.size ∧ ∀ i, i < n → cur[i]? = some (C i)
theorem Wr.cell {w : World} {g n : Nat} {t : TypeId} {C : Nat → Value} (h : Wr w g t n C) {i : Nat} (hi : i < n) : w.cell? ⟨g, i, none⟩ = some (C i) := by
  obtain ⟨cur, h1, h2, h3⟩ := h
  simp [World.cell?, h1, h3 i hi]
theorem Wr.frozen {w : World} {g n : Nat} {t : TypeId} {C : Nat → Value} (h : Wr w g t n C) (i : Nat) : w.frozen? ⟨g, i, none⟩ = false := by
  obtain ⟨cur, h1, h2, h3⟩ := h
  simp [World.frozen?, h1]
theorem Wr.set {w : World} {g n : Nat} {t : TypeId} {C : Nat → Value} (h : Wr w g t n C) (i : Nat) (u : Value) : Wr (w.setCell ⟨g, i, none⟩ u) g t n (fun j => if j = i then u else C j) := by
  obtain ⟨cur, h1, h2, h3⟩ := h
  refine ⟨_, heap_set_same h1, by simpa using h2, fun j hj => ?_⟩
  rw [Array.getElem?_setIfInBounds]
  by_cases e : i = j
  · subst e; rw [if_pos rfl, if_pos (by omega)]; simp
  · rw [if_neg e]; show cur[j]? = some (if j = i then u else C j); rw [if_neg (Ne.symm e)]; exact h3 j hj
theorem Wr.same {w w' : World} {g n : Nat} {t : TypeId} {C : Nat → Value} (h : Wr w g t n C) (e : w'.heap[g]? = w.heap[g]?) : Wr w' g t n C := by
  obtain ⟨cur, h1, r⟩ := h; exact ⟨cur, e.trans h1, r⟩
theorem Wr.ext {w : World} {g n : Nat} {t : TypeId} {C C' : Nat → Value} (h : Wr w g t n C) (e : ∀ i, i < n → C i = C' i) : Wr w g t n C' := by
  obtain ⟨cur, h1, h2, h3⟩ := h; exact ⟨cur, h1, h2, fun i hi => by rw [← e i hi]; exact h3 i hi⟩
theorem Wr.lt {w : World} {g n : Nat} {t : TypeId} {C : Nat → Value} (h : Wr w g t n C) : g < w.heap.size := by
  obtain ⟨cur, h1, _⟩ := h; exact (Array.getElem?_eq_some_iff.1 h1).1
theorem PMk.wr {w : World} {g n : Nat} (h : PMk w g n) : ∃ C, Wr w g 9 n C := by
  obtain ⟨cur, h1, h2⟩ := h
  exact ⟨fun i => cur.getD i default, cur, h1, h2, fun i hi => by simp [Array.getD, show i < cur.size by omega]⟩
theorem Wr.pmk {w : World} {g n : Nat} {C : Nat → Value} (h : Wr w g 9 n C) : PMk w g n := by
  obtain ⟨cur, h1, h2, _⟩ := h; exact ⟨cur, h1, h2⟩
theorem PMk.any {w : World} {g n b i : Nat} {u : Value} (h : PMk w g n) : PMk (w.setCell ⟨b, i, none⟩ u) g n := by
  by_cases e : b = g
  · subst e
    obtain ⟨cur, h1, h2⟩ := h
    exact ⟨_, heap_set_same h1, by simpa using h2⟩
  · exact h.set _ _ (Ne.symm e)
theorem grown_set {w w' : World} {g : Nat} (h : w.grownBy w' (some g)) (i : Nat) (u : Value) : w.grownBy (w'.setCell ⟨g, i, none⟩ u) (some g) :=
  ⟨h.os, h.tape, h.output, by simpa [World.setCell] using h.size, fun k hk hne => (Below.heap_setCell _ _ _ _ (fun e => hne (by rw [e]))).trans (h.block k hk hne)⟩
theorem grown_below {w w1 w' : World} {g : Nat} (h : w.grownBy w1 (some g)) (hb : Below w1.heap.size w1 w') : w.grownBy w' (some g) :=
  ⟨hb.os.trans h.os, hb.tape.trans h.tape, hb.output.trans h.output, Nat.le_trans h.size hb.size, fun k hk hne => (hb.block k (Nat.lt_of_lt_of_le hk h.size)).trans (h.block k hk hne)⟩
theorem grown_refl {w : World} (r : Option Nat) : w.grownBy w r := ⟨rfl, rfl, rfl, Nat.le_refl _, fun _ _ _ => rfl⟩
set_option maxRecDepth 100000 in
set_option maxHeartbeats 1000000 in
theorem markStrings (g n c k0 : Nat) (C : Nat → Value) (w : World) (hk : k0 + n ≤ 10000000000000) (h : Wr w g 9 n C) :
    Calls Tryz.prog 84 #[.slice (some ⟨g, 0, none⟩) n c, .int .i64 (k0 : Int)] w fun e w' => e = .returned (.int .i64 ((k0 + n : Nat) : Int)) ∧ w.grownBy w' (some g) ∧ Wr w' g 9 n (fun i => .string (mkT (k0 + i))) ∧ ∀ g' n', PMk w g' n' → PMk w' g' n' := by
  have HW := hid h
  clear h
  go_enter Tryz.func84, Tryz.ntmps84
  go_wp2_with fail
  go_loopw [1, 5] (fun q i wr => ∃ (j m : Nat), j ≤ n ∧ m = k0 + j ∧ i = .int .i64 (j : Int) ∧ q = .int .i64 (m : Int) ∧ Hid (w.grownBy wr (some g)) ∧ Hid (Wr wr g 9 n (fun t => if t < j then .string (mkT (k0 + t)) else C t)) ∧ Hid (∀ g' n', PMk w g' n' → PMk wr g' n')) (fun _ i _ => n - (intOf i).toNat)
  case atStart => exact ⟨0, k0, Nat.zero_le _, rfl, rfl, rfl, hid (grown_refl _), hid (HW.out.ext fun i _ => by simp), hid (fun _ _ h => h)⟩
  case round =>
    obtain ⟨j, m, hj, hm, rfl, rfl, HG, HC, HPM⟩ := hrel
    by_cases hlt : j < n
    · have i1 : (0 : Int) ≤ (j : Int) := Int.natCast_nonneg _
      have i2 : (j : Int) < (n : Int) := by omega
      have HT := hid (markTextC m wr (by omega))
      have HM := hid hm
      obtain ⟨s, hs⟩ : ∃ s, mkT m = s := ⟨_, rfl⟩
      rw [hs] at HT
      have HS := hid hs
      clear hs hm
      go_wp2_with fail
      refine HT.out.mono ?_
      rintro e w1 ⟨rfl, b1⟩
      have W1 := HC.out.same (b1.block g HC.out.lt)
      have c0 := W1.cell hlt
      have f0 := W1.frozen j
      rw [if_neg (by omega)] at c0
      have HG1 := hid (grown_set (grown_below HG.out b1) j (.string s))
      have HC1 := hid (W1.set j (.string s))
      have HPM1 : Hid (∀ g' n', PMk w g' n' → PMk (w1.setCell ⟨g, j, none⟩ (.string s)) g' n') := hid (fun g' n' h => by
        have h1 := HPM.out g' n' h
        obtain ⟨cur, h2, h3⟩ := h1
        exact PMk.any ⟨cur, (b1.block g' (Array.getElem?_eq_some_iff.1 h2).1).trans h2, h3⟩)
      have hm1 : (m : Int) + 1 ≤ 9223372036854775807 := by have := HM.out; omega
      clear b1 HT W1
      obtain ⟨v0, hv0⟩ : ∃ v0, C j = v0 := ⟨_, rfl⟩
      rw [hv0] at c0
      clear hv0
      go_wp2_with fail
      go_roundw
      case rel =>
        refine ⟨j + 1, m + 1, hlt, by have := HM.out; omega, by go_num, by go_num, HG1, hid (HC1.out.ext fun i hi => ?_), HPM1⟩
        by_cases e : i = j
        · subst e; rw [if_pos rfl, if_pos (by omega), ← HS.out, HM.out]
        · rw [if_neg e]
          by_cases e2 : i < j
          · rw [if_pos e2, if_pos (by omega)]
          · rw [if_neg e2, if_neg (by omega)]
      case measure => simp [intOf]; omega
    · obtain rfl : j = n := by omega
      have HC1 := hid (HC.out.ext (C' := fun i => .string (mkT (k0 + i))) fun i hi => if_pos hi)
      have HM := hid hm
      clear hm HC
      go_wp2_with fail
      go_ret
      exact ⟨by rw [← HM.out]; rfl, HG.out, HC1.out, HPM.out⟩

structure Btw (lo hi : Nat) (w w' : World) : Prop where
  os : w'.os = w.os
  tape : w'.tape = w.tape
  output : w'.output = w.output
  size : w.heap.size ≤ w'.heap.size
  block : ∀ g, g < w.heap.size → (g < lo ∨ hi ≤ g) → w'.heap[g]? = w.heap[g]?
theorem Btw.refl (lo hi : Nat) (w : World) : Btw lo hi w w := ⟨rfl, rfl, rfl, Nat.le_refl _, fun _ _ _ => rfl⟩
theorem Btw.trans {lo hi : Nat} {a b c : World} (h : Btw lo hi a b) (k : Btw lo hi b c) : Btw lo hi a c :=
  ⟨k.os.trans h.os, k.tape.trans h.tape, k.output.trans h.output, Nat.le_trans h.size k.size, fun g hg ho => (k.block g (Nat.lt_of_lt_of_le hg h.size) ho).trans (h.block g hg ho)⟩
theorem Btw.of {lo hi g : Nat} {w w' : World} (h : w.grownBy w' (some g)) (h1 : lo ≤ g) (h2 : g < hi) : Btw lo hi w w' :=
  ⟨h.os, h.tape, h.output, h.size, fun k hk ho => h.block k hk (fun e => by injection e with e; omega)⟩
theorem Btw.below {lo hi : Nat} {w w' : World} (h : Below w.heap.size w w') : Btw lo hi w w' := ⟨h.os, h.tape, h.output, h.size, fun k hk _ => h.block k hk⟩
theorem Btw.set {lo hi : Nat} {w w' : World} (h : Btw lo hi w w') (q : Addr) (u : Value) (h1 : lo ≤ q.block) (h2 : q.block < hi) : Btw lo hi w (w'.setCell q u) :=
  ⟨h.os, h.tape, h.output, by simpa [World.setCell] using h.size, fun g hg ho => (Below.heap_setCell _ _ _ _ (by omega)).trans (h.block g hg ho)⟩
theorem Btw.low {lo hi : Nat} {w w' : World} (h : Btw lo hi w w') (hl : lo ≤ w.heap.size) : Below lo w w' := ⟨h.os, h.tape, h.output, h.size, fun g hg => h.block g (by omega) (.inl hg)⟩

structure LTo (w : World) (lo hi b : Nat) (l : List Lf) (j : Nat) : Prop where
  wr : ∃ C, Wr w b 69 (l.length * 5) C
  paths : ∀ i, j ≤ i → i < l.length → ∃ g, w.cell? ⟨b, i * 5, none⟩ = some (.slice (some ⟨g, 0, none⟩) (gL l i).p.length (gL l i).p.length) ∧ g ≠ b ∧ lo ≤ g ∧ g < hi
  str : ∀ i, j ≤ i → i < l.length → ∀ g n c, w.cell? ⟨b, i * 5, none⟩ = some (.slice (some ⟨g, 0, none⟩) n c) → PMk w g (gL l i).p.length
theorem LMk.to {w : World} {lo hi b : Nat} {l : List Lf} (h : LMk w lo hi b l) : LTo w lo hi b l 0 := by
  obtain ⟨h1, ⟨cur, h2, h3⟩, h4⟩ := h
  refine ⟨⟨fun i => cur.getD i default, cur, h2, h3, fun i hi => by simp [Array.getD, show i < cur.size by omega]⟩, fun i _ hi' => ?_, fun i _ hi' g n c hc => ?_⟩
  · obtain ⟨g, g1, g2, g3, g4, g5⟩ := h4 i hi'
    exact ⟨g, g1, g2, g3, g4⟩
  · obtain ⟨g', g1, g2, g3, g4, g5⟩ := h4 i hi'
    rw [g1] at hc
    simp at hc
    obtain ⟨rfl, _⟩ := hc
    exact g5
theorem LTo.btw {w : World} {lo hi b : Nat} {l : List Lf} {j : Nat} (h : LTo w lo hi b l j) : LTo w lo hi b l (j + 1) := ⟨h.wr, fun i hi => h.paths i (by omega), fun i hi => h.str i (by omega)⟩
theorem LTo.set {w : World} {lo hi b o : Nat} {l : List Lf} {j : Nat} (h : LTo w lo hi b l j) (u : Value) (ho : o < j * 5) : LTo (w.setCell ⟨b, o, none⟩ u) lo hi b l j := by
  obtain ⟨C, hC⟩ := h.wr
  have q : ∀ i, j ≤ i → (w.setCell ⟨b, o, none⟩ u).cell? ⟨b, i * 5, none⟩ = w.cell? ⟨b, i * 5, none⟩ := fun i hi => by
    have : o ≠ i * 5 := by omega
    simp [World.cell?_setCell_other, this]
  refine ⟨⟨_, hC.set o u⟩, fun i h1 h2 => ?_, fun i h1 h2 g n c hc => ?_⟩
  · rw [q i h1]; exact h.paths i h1 h2
  · rw [q i h1] at hc; exact (h.str i h1 h2 g n c hc).any
theorem LTo.grown {w w' : World} {lo hi b g : Nat} {l : List Lf} {j : Nat} (h : LTo w lo hi b l j) (hg : w.grownBy w' (some g)) (hb : g ≠ b) (hp : ∀ g' n', PMk w g' n' → PMk w' g' n') : LTo w' lo hi b l j := by
  obtain ⟨C, hC⟩ := h.wr
  have e : w'.heap[b]? = w.heap[b]? := hg.block b hC.lt (fun e => hb (by injection e with e; exact e.symm))
  have q : ∀ i, w'.cell? ⟨b, i * 5, none⟩ = w.cell? ⟨b, i * 5, none⟩ := fun i => World.cell?_of_block (a := ⟨b, i * 5, none⟩) e
  refine ⟨⟨C, hC.same e⟩, fun i h1 h2 => ?_, fun i h1 h2 g n c hc => ?_⟩
  · rw [q i]; exact h.paths i h1 h2
  · rw [q i] at hc; exact hp _ _ (h.str i h1 h2 g n c hc)
theorem LTo.below {w w' : World} {lo hi b : Nat} {l : List Lf} {j : Nat} (h : LTo w lo hi b l j) (hb : Below w.heap.size w w') : LTo w' lo hi b l j := by
  obtain ⟨C, hC⟩ := h.wr
  have e := hb.block b hC.lt
  have q : ∀ i, w'.cell? ⟨b, i * 5, none⟩ = w.cell? ⟨b, i * 5, none⟩ := fun i => World.cell?_of_block (a := ⟨b, i * 5, none⟩) e
  refine ⟨⟨C, hC.same e⟩, fun i h1 h2 => ?_, fun i h1 h2 g n c hc => ?_⟩
  · rw [q i]; exact h.paths i h1 h2
  · rw [q i] at hc
    obtain ⟨cur, h3, h4⟩ := h.str i h1 h2 g n c hc
    exact ⟨cur, (hb.block g (Array.getElem?_eq_some_iff.1 h3).1).trans h3, h4⟩
set_option maxRecDepth 100000 in
set_option maxHeartbeats 2000000 in
theorem markLeaves (lo hi b c k0 : Nat) (l : List Lf) (w : World) (hk : k0 ≤ 4000000000000) (hn : l.length ≤ 1048576) (hp : ∀ i, (gL l i).p.length ≤ 1048576) (hb : lo ≤ b ∧ b < hi) (h : LTo w lo hi b l 0) :
    Calls Tryz.prog 51 #[.slice (some ⟨b, 0, none⟩) l.length c, .int .i64 (k0 : Int)] w fun e w' => (∃ k1 : Nat, k1 ≤ k0 + 2000000000000 ∧ e = .returned (.int .i64 (k1 : Int))) ∧ Btw lo hi w w' ∧ ∀ (q : Nat) (cur : Array Value), w.heap[q]? = some (Obj.cells cur 71 (0, 0)) → w'.heap[q]? = w.heap[q]? := by
  have HW := hid h
  have Hb := hid hb
  clear h hb
  go_enter Tryz.func51, Tryz.ntmps51
  go_wp2_with fail
  go_loopw [1, 5] (fun q i wr => ∃ (j m : Nat), j ≤ l.length ∧ m ≤ k0 + j * 1048580 ∧ i = .int .i64 (j : Int) ∧ q = .int .i64 (m : Int) ∧ Hid (Btw lo hi w wr) ∧ Hid (LTo wr lo hi b l j) ∧ Hid (∀ (q : Nat) (cur : Array Value), w.heap[q]? = some (Obj.cells cur 71 (0, 0)) → wr.heap[q]? = w.heap[q]?)) (fun _ i _ => l.length - (intOf i).toNat)
  case atStart => exact ⟨0, k0, Nat.zero_le _, by omega, rfl, rfl, hid (Btw.refl _ _ _), HW, hid (fun _ _ _ => rfl)⟩
  case round =>
    obtain ⟨j, m, hj, hm, rfl, rfl, HB, HL, HQ⟩ := hrel
    by_cases hlt : j < l.length
    · have i1 : (0 : Int) ≤ (j : Int) := Int.natCast_nonneg _
      have i2 : (j : Int) < (l.length : Int) := by omega
      obtain ⟨g, g1, g2, g3, g4⟩ := HL.out.paths j (Nat.le_refl _) hlt
      obtain ⟨PC, hPC⟩ := (HL.out.str j (Nat.le_refl _) hlt _ _ _ g1).wr
      have hpj := hp j
      obtain ⟨np, hnp⟩ : ∃ np, (gL l j).p.length = np := ⟨_, rfl⟩
      rw [hnp] at g1 hPC hpj
      have HMS := hid (markStrings g np np m PC wr (by omega) hPC)
      have HQg : Hid (∀ (q : Nat) (cur : Array Value), w.heap[q]? = some (Obj.cells cur 71 (0, 0)) → q ≠ g) := hid (fun q cur h e => by
        subst e
        obtain ⟨cur', h1, _⟩ := hPC
        rw [HQ.out _ _ h, h] at h1
        injection h1 with h1
        injection h1 with _ h2
        exact absurd h2 (by decide))
      clear hPC hnp
      go_wp2_with fail
      refine HMS.out.mono ?_
      rintro e w1 ⟨rfl, hg1, hw1, hpm⟩
      have HQ1 : Hid (∀ (q : Nat) (cur : Array Value), w.heap[q]? = some (Obj.cells cur 71 (0, 0)) → w1.heap[q]? = w.heap[q]?) := hid (fun q cur h => (hg1.block q (Nat.lt_of_lt_of_le (Array.getElem?_eq_some_iff.1 h).1 HB.out.size) (fun e => HQg.out q cur h (by injection e))).trans (HQ.out q cur h))
      have L1 := HL.out.btw.grown hg1 g2 hpm
      have HQb : Hid (∀ (q : Nat) (cur : Array Value), w.heap[q]? = some (Obj.cells cur 71 (0, 0)) → q ≠ b) := hid (fun q cur h e => by
        subst e
        obtain ⟨C', cur', h1, _⟩ := L1.wr
        rw [HQ1.out _ _ h, h] at h1
        injection h1 with h1
        injection h1 with _ h2
        exact absurd h2 (by decide))
      have HB1 := hid (HB.out.trans (Btw.of hg1 g3 g4))
      obtain ⟨C, hC⟩ := L1.wr
      have HL1 := hid L1
      obtain ⟨m1, hm1⟩ : ∃ m1, m + np = m1 := ⟨_, rfl⟩
      have hm2 : m1 ≤ k0 + j * 1048580 + 1048576 := by omega
      have c1 := hC.cell (i := j * 5 + 1) (by omega)
      have c2 := hC.cell (i := j * 5 + 2) (by omega)
      have c3 := hC.cell (i := j * 5 + 3) (by omega)
      have f1 := hC.frozen (j * 5 + 1)
      have f2 := hC.frozen (j * 5 + 2)
      have f3 := hC.frozen (j * 5 + 3)
      rw [hm1]
      clear hC L1 hg1 hw1 hpm HMS hm1 g1 HL
      go_wp2_with fail
      obtain ⟨W3, hW3⟩ : ∃ W3, ((w1.setCell ⟨b, j * 5 + 1, none⟩ (.bool ((m1 : Int) % 3 == 0))).setCell ⟨b, j * 5 + 2, none⟩ (.int .i64 ((m1 : Int) + 1))).setCell ⟨b, j * 5 + 2 + 1, none⟩ (.int .i64 ((m1 : Int) + 1 + 1)) = W3 := ⟨_, rfl⟩
      rw [hW3]
      have L3 : LTo W3 lo hi b l (j + 1) := by rw [← hW3]; exact ((HL1.out.set _ (by omega)).set _ (by omega)).set _ (by omega)
      have B3 : Btw lo hi w W3 := by rw [← hW3]; exact ((HB1.out.set _ _ Hb.out.1 Hb.out.2).set _ _ Hb.out.1 Hb.out.2).set _ _ Hb.out.1 Hb.out.2
      have Q3 : ∀ (q : Nat) (cur : Array Value), w.heap[q]? = some (Obj.cells cur 71 (0, 0)) → W3.heap[q]? = w.heap[q]? := fun q cur h => by
        have hq := HQb.out q cur h
        rw [← hW3, Below.heap_setCell _ _ _ _ hq, Below.heap_setCell _ _ _ _ hq, Below.heap_setCell _ _ _ _ hq]; exact HQ1.out q cur h
      have MT := markTextC (m1 + 3) W3 (by omega)
      have e3 : ((m1 + 3 : Nat) : Int) = (m1 : Int) + 1 + 1 + 1 := by omega
      rw [e3] at MT
      clear hW3 c1 c2 c3 f1 f2 f3 HL1 HB1 e3
      refine MT.mono ?_
      rintro e w4 ⟨rfl, b4⟩
      have L4 := L3.below b4
      have HQ5 : Hid (∀ (q : Nat) (cur : Array Value), w.heap[q]? = some (Obj.cells cur 71 (0, 0)) → ∀ v, (w4.setCell ⟨b, j * 5 + 4, none⟩ v).heap[q]? = w.heap[q]?) := hid (fun q cur h v => by
        rw [Below.heap_setCell _ _ _ _ (HQb.out q cur h), b4.block q (Nat.lt_of_lt_of_le (Array.getElem?_eq_some_iff.1 h).1 B3.size)]; exact Q3 q cur h)
      have HB4 := hid (B3.trans (Btw.below b4))
      obtain ⟨C4, hC4⟩ := L4.wr
      have c4 := hC4.cell (i := j * 5 + 4) (by omega)
      have f4 := hC4.frozen (j * 5 + 4)
      have HL4 := hid (L4.set (o := j * 5 + 4) (.string (mkT (m1 + 3))) (by omega))
      have HB5 := hid (HB4.out.set ⟨b, j * 5 + 4, none⟩ (.string (mkT (m1 + 3))) Hb.out.1 Hb.out.2)
      obtain ⟨t4, ht4⟩ : ∃ t4, mkT (m1 + 3) = t4 := ⟨_, rfl⟩
      rw [ht4] at HL4 HB5
      rw [ht4]
      clear hC4 L4 L3 B3 Q3 b4 HB4 MT ht4
      go_wp2_with fail
      go_roundw
      case rel => exact ⟨j + 1, m1 + 4, hlt, by omega, by go_num, by go_num, HB5, HL4, hid (fun q cur h => HQ5.out q cur h _)⟩
      case measure => simp [intOf]; omega
    · obtain rfl : j = l.length := by omega
      clear HL
      go_wp2_with fail
      go_ret
      exact ⟨⟨m, by omega, rfl⟩, HB.out, HQ.out⟩

set_option maxRecDepth 100000 in
set_option maxHeartbeats 1000000 in
theorem markStateC (lo hi b g n k0 : Nat) (l : List Lf) (ys : List Value) (w : World) (hk : k0 ≤ 4000000000000) (hn : l.length ≤ 1048576) (hp : ∀ i, (gL l i).p.length ≤ 1048576) (hm : n ≤ 1048576) (hh : hi ≤ w.heap.size) (hg : lo ≤ g ∧ g < hi) (h : LMk w lo hi b l) (ho : w.ownsRow lo 71 3 (.slice (some ⟨g, 0, none⟩) n n) n ys) :
    Calls Tryz.prog 27 #[.agg #[.slice (some ⟨b, 0, none⟩) l.length l.length, .slice (some ⟨g, 0, none⟩) n n], .int .i64 (k0 : Int)] w fun e w' => (∃ k1 : Nat, k1 ≤ k0 + 3000000000000 ∧ e = .returned (.int .i64 (k1 : Int))) ∧ Btw lo hi w w' := by
  obtain ⟨W, hW⟩ : ∃ W, w.alloc (.cells #[.slice (some ⟨b, 0, none⟩) l.length l.length, .slice (some ⟨g, 0, none⟩) n n] 36) = W := ⟨_, rfl⟩
  have b0 : Below w.heap.size w W := by rw [← hW]; exact (Below.refl _ _).alloc (Nat.le_refl _) _
  have z0 : w.heap.size < W.heap.size := by rw [← hW]; simp
  have k0' : W.cell? ⟨w.heap.size, 0, none⟩ = some (.slice (some ⟨b, 0, none⟩) l.length l.length) := by rw [← hW]; simp
  have k1' : W.cell? ⟨w.heap.size, 1, none⟩ = some (.slice (some ⟨g, 0, none⟩) n n) := by rw [← hW]; simp
  have HM := hid (markLeaves lo hi b l.length k0 l W (by omega) hn hp h.1 (h.to.below b0))
  have HO := hid (owns_below ho b0 (fun k hk => by simp [Value.ownBlock] at hk; omega))
  have HB := hid (Btw.below (lo := lo) (hi := hi) b0)
  clear h ho b0
  go_enter Tryz.func27, Tryz.ntmps27
  go_wp2_with fail
  try rw [hW]
  clear hW
  refine HM.out.mono ?_
  rintro e w1 ⟨⟨m, hm1, rfl⟩, b1, hq⟩
  have c1 := (World.cell?_of_block (a := ⟨w.heap.size, 1, none⟩) (b1.block w.heap.size z0 (.inr hh))).trans k1'
  have HO1 : Hid (∃ ys, w1.ownsRow lo 71 3 (.slice (some ⟨g, 0, none⟩) n n) n ys) := hid (by
    obtain ⟨q1, q2⟩ := HO.out
    refine ⟨ys, q1, ?_⟩
    rcases q2 with ⟨q2, _⟩ | ⟨g', cap, cur, e, hbg, hb, r⟩
    · cases q2
    · exact .inr ⟨g', cap, cur, e, hbg, (hq g' cur hb).trans hb, r⟩)
  have HB1 := hid (HB.out.trans b1)
  clear b1 hq HM HO k0' k1'
  go_wp2_with fail
  obtain ⟨ys1, o1⟩ := HO1.out
  refine (markContext lo g n n m ys1 w1 (by have := HB1.out.size; omega) (by omega) (by omega) o1).mono ?_
  rintro e w2 ⟨rfl, bl2, _, hs2, hb2⟩
  have HB2 := hid (HB1.out.trans (⟨bl2.os, bl2.tape, bl2.output, hs2, fun q hq ho => hb2 q hq (by omega)⟩ : Btw lo hi w1 w2))
  obtain ⟨m2, hm2⟩ : ∃ m2, m + 3 * n = m2 := ⟨_, rfl⟩
  rw [hm2]
  have hm3 : m2 ≤ k0 + 3000000000000 := by omega
  clear bl2 hs2 hb2 o1 HO1 hm2 c1
  go_wp2_with fail
  go_ret
  exact ⟨⟨m2, hm3, rfl⟩, HB2.out⟩
end Go.Proofs.YtdenbicnckkdfaaGreat
