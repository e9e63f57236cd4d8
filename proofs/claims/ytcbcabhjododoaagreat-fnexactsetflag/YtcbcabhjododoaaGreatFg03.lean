import Derived.Test.YtcbcabhjododoaaGreatFg02
set_option linter.unusedVariables false
set_option linter.unusedSimpArgs false
set_option maxRecDepth 100000
set_option maxHeartbeats 40000000
namespace Go.Proofs.YtcbcabhjododoaaGreat
open Go.ChangeShapes Go.WideShapes Go.ChangeAt Go.RowKit
def PBig (p : List ByteArray) : Prop := p.length ≤ 9223372036854775807 ∧ ∀ i, (gS p i).size ≤ 9223372036854775807
def PSm (p : List ByteArray) : Prop := p.length ≤ 1048576 ∧ ∀ i, (gS p i).size ≤ 1048576
def LfBig (x : Lf) : Prop := PBig x.p ∧ x.v.size ≤ 9223372036854775807
def LfSm (x : Lf) : Prop := PSm x.p ∧ x.v.size ≤ 1048576
theorem gS_far {p : List ByteArray} {i : Nat} (h : p.length ≤ i) : gS p i = ByteArray.empty := by simp [gS, List.getD, List.getElem?_eq_none h]
theorem szStrings (a : Option Addr) (c : Nat) (p : List ByteArray) (k : Int) (w : World) (hk0 : 0 ≤ k) (hk1 : k ≤ 1048576) (hb : PBig p) (h : SSeg w a p) :
  Calls Tryz.prog 7 #[.slice a p.length c, .int .i64 k] w fun e w' => (∃ k', e = .returned (.int .i64 k') ∧ -1 ≤ k' ∧ k' ≤ k ∧ (0 ≤ k' → PSm p)) ∧ w' = w := by
 obtain ⟨hb1, hb2⟩ := hb
 by_cases hlen : k < (p.length : Int)
 ·obtain ⟨k1, hk⟩ : ∃ k1, k - (p.length : Int) = k1 := ⟨_, rfl⟩
  have w1 : IntKind.i64.wrap k1 = k1 := by rw [IntKind.wrap_i64]; omega
  have w2 : IntKind.i64.wrap (k - (p.length : Int)) = k1 := by rw [IntKind.wrap_i64]; omega
  have d0 : decide (k1 < 0) = true := by simp; omega
  clear h hb2
  go_enter Tryz.func7, Tryz.ntmps7
  go_wp2_with fail
  go_ret
  exact ⟨⟨-1, rfl, by omega, by omega, fun h => by omega⟩, rfl⟩
 ·obtain ⟨k1, hk⟩ : ∃ k1, k - (p.length : Int) = k1 := ⟨_, rfl⟩
  have w1 : IntKind.i64.wrap k1 = k1 := by rw [IntKind.wrap_i64]; omega
  have w2 : IntKind.i64.wrap (k - (p.length : Int)) = k1 := by rw [IntKind.wrap_i64]; omega
  have d0 : decide (k1 < 0) = false := by simp; omega
  have hpl : p.length ≤ 1048576 := by omega
  go_enter Tryz.func7, Tryz.ntmps7
  go_wp2_with fail
  have hk1' : 0 ≤ k1 ∧ k1 ≤ k := by omega
  clear hk w1 w2 d0 hlen
  go_loop [1, 5] (fun kv iv => ∃ (j : Nat) (kk : Int), j ≤ p.length ∧ iv = .int .i64 (j : Int) ∧ kv = .int .i64 kk ∧ 0 ≤ kk ∧ kk ≤ k ∧ Hid (∀ i, i < j → (gS p i).size ≤ 1048576)) (fun _ iv => p.length - (intOf iv).toNat)
  case atStart => exact ⟨0, k1, Nat.zero_le _, rfl, rfl, hk1'.1, hk1'.2, hid (fun i hi => by omega)⟩
  case round =>
   obtain ⟨j, kk, hj, rfl, rfl, hkk0, hkk1, hsm⟩ := hrel
   by_cases hlt : j < p.length
   ·rcases h with h | ⟨b, off, rfl, hbl, hc⟩
    ·omega
    have x0 := hc j hlt
    have hsz := hb2 j
    obtain ⟨s, hs⟩ : ∃ s, gS p j = s := ⟨_, rfl⟩
    rw [hs] at x0 hsz
    have i1 : (0 : Int) ≤ (j : Int) := Int.natCast_nonneg _
    have i2 : (j : Int) < (p.length : Int) := by omega
    have HS := hid hs
    obtain ⟨k2, hk2⟩ : ∃ k2, kk - (s.size : Int) = k2 := ⟨_, rfl⟩
    have w1 : IntKind.i64.wrap k2 = k2 := by rw [IntKind.wrap_i64]; omega
    have w2 : IntKind.i64.wrap (kk - (s.size : Int)) = k2 := by rw [IntKind.wrap_i64]; omega
    clear hc hs
    by_cases hneg : k2 < 0
    ·have d0 : decide (k2 < 0) = true := by simpa using hneg
     go_wp2_with fail
     go_ret
     exact ⟨⟨-1, rfl, by omega, by omega, fun h => by omega⟩, rfl⟩
    ·have d0 : decide (k2 < 0) = false := by simpa using hneg
     have HN : Hid (∀ i, i < j + 1 → (gS p i).size ≤ 1048576) := hid (fun i hi => by
      by_cases e : i = j
      ·rw [e, HS.out]; omega
      ·exact hsm.out i (by omega))
     go_wp2_with fail
     go_round
     case rel => exact ⟨j + 1, k2, hlt, by go_num, rfl, by omega, by omega, HN⟩
     case measure => simp [intOf]; omega
   ·obtain rfl : j = p.length := by omega
    have HP : Hid (PSm p) := hid ⟨hpl, fun i => by
     by_cases hi : i < p.length
     ·exact hsm.out i hi
     ·rw [gS_far (by omega)]; simp⟩
    clear h
    go_wp2_with fail
    go_ret
    exact ⟨⟨kk, rfl, by omega, hkk1, fun _ => HP.out⟩, rfl⟩
theorem szLeafC (a : Option Addr) (c : Nat) (x : Lf) (k : Int) (w : World) (hk0 : 0 ≤ k) (hk1 : k ≤ 1048576) (hb : LfBig x) (h : SSeg w a x.p) :
  Calls Tryz.prog 41 #[.agg #[.slice a x.p.length c, .bool x.fl, .int .i64 x.r, .int .i64 x.q, .string x.v], .int .i64 k] w fun e w' => (∃ k', e = .returned (.int .i64 k') ∧ -1 ≤ k' ∧ k' ≤ k ∧ (0 ≤ k' → LfSm x)) ∧ Below w.heap.size w w' := by
 obtain ⟨p, fl, r, q, v⟩ := x
 obtain ⟨hb1, hb2⟩ := hb
 dsimp only at hb1 hb2 h ⊢
 obtain ⟨W, hW⟩ : ∃ W, w.alloc (.cells #[.slice a p.length c, .bool fl, .int .i64 r, .int .i64 q, .string v] 85) = W := ⟨_, rfl⟩
 have b0 : Below w.heap.size w W := by rw [← hW]; exact (Below.refl _ _).alloc (Nat.le_refl _) _
 have k0 : W.cell? ⟨w.heap.size, 0, none⟩ = some (.slice a p.length c) := by rw [← hW]; simp
 have k4 : W.cell? ⟨w.heap.size, 4, none⟩ = some (.string v) := by rw [← hW]; simp
 have HS := hid (szStrings a c p k W hk0 hk1 hb1 (h.below b0))
 have HB0 := hid b0
 clear h b0 hb1
 go_enter Tryz.func41, Tryz.ntmps41
 go_wp2_with fail
 try rw [hW]
 clear hW
 refine HS.out.mono ?_
 rintro e w1 ⟨⟨k', rfl, hk'0, hk'1, hps⟩, rfl⟩
 have HPS := hid hps
 clear hps HS
 by_cases hneg : k' < 0
 ·have d0 : decide (k' < 0) = true := by simpa using hneg
  go_wp2_with fail
  go_ret
  exact ⟨⟨-1, rfl, by omega, by omega, fun h => by omega⟩, HB0.out⟩
 ·have d0 : decide (k' < 0) = false := by simpa using hneg
  obtain ⟨k2, hk2⟩ : ∃ k2, k' - (v.size : Int) = k2 := ⟨_, rfl⟩
  have w1 : IntKind.i64.wrap k2 = k2 := by rw [IntKind.wrap_i64]; omega
  have w2 : IntKind.i64.wrap (k' - (v.size : Int)) = k2 := by rw [IntKind.wrap_i64]; omega
  by_cases hneg2 : k2 < 0
  ·have d1 : decide (k2 < 0) = true := by simpa using hneg2
   go_wp2_with fail
   go_ret
   exact ⟨⟨-1, rfl, by omega, by omega, fun h => by omega⟩, HB0.out⟩
  ·have d1 : decide (k2 < 0) = false := by simpa using hneg2
   go_wp2_with fail
   go_ret
   exact ⟨⟨k2, rfl, by omega, by omega, fun _ => ⟨HPS.out (by omega), by show v.size ≤ 1048576; omega⟩⟩, HB0.out⟩
theorem szLeaves (a : Option Addr) (c : Nat) (l : List Lf) (k : Int) (w : World) (hk0 : 0 ≤ k) (hk1 : k ≤ 1048576) (hn : l.length ≤ 9223372036854775807) (hb : ∀ i, LfBig (gL l i)) (h : LSeg w a l) :
  Calls Tryz.prog 21 #[.slice a l.length c, .int .i64 k] w fun e w' => (∃ k', e = .returned (.int .i64 k') ∧ -1 ≤ k' ∧ k' ≤ k ∧ (0 ≤ k' → l.length ≤ 1048576 ∧ ∀ i, LfSm (gL l i))) ∧ Below w.heap.size w w' := by
 obtain ⟨k1, hk⟩ : ∃ k1, k - (l.length : Int) = k1 := ⟨_, rfl⟩
 have w1 : IntKind.i64.wrap k1 = k1 := by rw [IntKind.wrap_i64]; omega
 have w2 : IntKind.i64.wrap (k - (l.length : Int)) = k1 := by rw [IntKind.wrap_i64]; omega
 by_cases hneg : k1 < 0
 ·have d0 : decide (k1 < 0) = true := by simpa using hneg
  clear h hb
  go_enter Tryz.func21, Tryz.ntmps21
  go_wp2_with fail
  go_ret
  exact ⟨⟨-1, rfl, by omega, by omega, fun h => by omega⟩, Below.refl _ _⟩
 ·have d0 : decide (k1 < 0) = false := by simpa using hneg
  have hpl : l.length ≤ 1048576 := by omega
  go_enter Tryz.func21, Tryz.ntmps21
  go_wp2_with fail
  have hk1' : 0 ≤ k1 ∧ k1 ≤ k := by omega
  clear hk w1 w2 d0 hneg
  go_loopw [1, 5] (fun kv iv wr => ∃ (j : Nat) (kk : Int), j ≤ l.length ∧ iv = .int .i64 (j : Int) ∧ kv = .int .i64 kk ∧ 0 ≤ kk ∧ kk ≤ k ∧ Hid (∀ i, i < j → LfSm (gL l i)) ∧ Hid (Below w.heap.size w wr)) (fun _ iv _ => l.length - (intOf iv).toNat)
  case atStart => exact ⟨0, k1, Nat.zero_le _, rfl, rfl, hk1'.1, hk1'.2, hid (fun i hi => by omega), hid (Below.refl _ _)⟩
  case round =>
   obtain ⟨j, kk, hj, rfl, rfl, hkk0, hkk1, hsm, hbel⟩ := hrel
   by_cases hlt : j < l.length
   ·rcases h with h | ⟨b, off, rfl, hbl, hc⟩
    ·omega
    obtain ⟨pa, pc, c0, s, c1, c2, c3, c4⟩ := hc j hlt
    have x0 := (hbel.out.cell (p := ⟨b, off + j * 5, none⟩) hbl).trans c0
    have x1 := (hbel.out.cell (p := ⟨b, off + j * 5 + 1, none⟩) hbl).trans c1
    have x2 := (hbel.out.cell (p := ⟨b, off + j * 5 + 2, none⟩) hbl).trans c2
    have x3 := (hbel.out.cell (p := ⟨b, off + j * 5 + 3, none⟩) hbl).trans c3
    have x4 := (hbel.out.cell (p := ⟨b, off + j * 5 + 4, none⟩) hbl).trans c4
    have HSZ := hid (szLeafC pa pc (gL l j) kk wr hkk0 (by omega) (hb j) (s.below hbel.out))
    have i1 : (0 : Int) ≤ (j : Int) := Int.natCast_nonneg _
    have i2 : (j : Int) < (l.length : Int) := by omega
    clear hc c0 s c1 c2 c3 c4
    go_wp2_with fail
    refine HSZ.out.mono ?_
    rintro e w3 ⟨⟨k', rfl, hk'0, hk'1, hps⟩, b3⟩
    have HPS := hid hps
    have HB3 := hid (hbel.out.trans (b3.mono hbel.out.size))
    clear hps HSZ b3 x0 x1 x2 x3 x4
    by_cases hneg : k' < 0
    ·have d0 : decide (k' < 0) = true := by simpa using hneg
     go_wp2_with fail
     go_ret
     exact ⟨⟨-1, rfl, by omega, by omega, fun h => by omega⟩, HB3.out⟩
    ·have d0 : decide (k' < 0) = false := by simpa using hneg
     have HN : Hid (∀ i, i < j + 1 → LfSm (gL l i)) := hid (fun i hi => by
      by_cases e : i = j
      ·rw [e]; exact HPS.out (by omega)
      ·exact hsm.out i (by omega))
     go_wp2_with fail
     go_roundw
     case rel => exact ⟨j + 1, k', hlt, by go_num, rfl, by omega, by omega, HN, HB3⟩
     case measure => simp [intOf]; omega
   ·obtain rfl : j = l.length := by omega
    have HP : Hid (l.length ≤ 1048576 ∧ ∀ i, LfSm (gL l i)) := hid ⟨hpl, fun i => by
     by_cases hi : i < l.length
     ·exact hsm.out i hi
     ·have e : gL l i = ⟨[], false, 0, 0, ByteArray.empty⟩ := by simp [gL, List.getD, List.getElem?_eq_none (show l.length ≤ i by omega)]
      rw [e]; exact ⟨⟨by simp, fun i => by rw [gS_far (by simp)]; simp⟩, by simp⟩⟩
    clear h
    go_wp2_with fail
    go_ret
    exact ⟨⟨kk, rfl, by omega, hkk1, fun _ => HP.out⟩, hbel.out⟩
theorem infoStr : (Tryz.prog.info? 9).map (fun i => (i.zero, i.size, i.bytes)) = some (some (.string ByteArray.empty), 1, 16) := by kernel_rfl
theorem toStrings (a : Option Addr) (c : Nat) (p : List ByteArray) (w : World) (hn : p.length ≤ 1048576) (h : SSeg w a p) :
  Calls Tryz.prog 10 #[.slice a p.length c] w fun e w' => e = .returned (.slice (some ⟨w.heap.size, 0, none⟩) p.length p.length) ∧ SSeg w' (some ⟨w.heap.size, 0, none⟩) p ∧ Below w.heap.size w w' ∧ w.heap.size < w'.heap.size ∧ ∃ xs, w'.ownsRow w.heap.size 9 1 (.slice (some ⟨w.heap.size, 0, none⟩) p.length p.length) p.length xs := by
 obtain ⟨i0, hi, hz0, hz1, hz2⟩ := info_parts infoStr
 have hm : p.length ≤ maxLen := by unfold maxLen; omega
 have hby : i0.bytes * p.length ≤ 281474976710656 := by rw [hz2]; omega
 go_enter Tryz.func10, Tryz.ntmps10
 go_wp2_with (at_make; refine wpList_make_full _ rfl _ _ 28 rfl w.heap.size 9 i0 _ 1 Tryz.underlying28 hi hz0 hz1 _ _ _ _ p.length rfl rfl rfl rfl hby hm (Nat.le_refl _) ?_; intro w1 hown hgr)
 have hbel : Below w.heap.size w w1 := (Below.refl _ _).grown hgr (Nat.le_refl _) (fun _ h => by cases h)
 have hown' : ∃ xs, w1.ownsRow w.heap.size 9 1 (.slice (some ⟨w.heap.size, 0, none⟩) p.length p.length) p.length xs := ⟨_, hown⟩
 clear hown hgr
 go_loopw [4] (fun i wr => ∃ k : Nat, k ≤ p.length ∧ i = .int .i64 k ∧ Below w.heap.size w wr ∧ ∃ xs : List Value, wr.ownsRow w.heap.size 9 1 (.slice (some ⟨w.heap.size, 0, none⟩) p.length p.length) p.length xs ∧ ∀ j, j < k → xs[j]? = some (.string (gS p j))) (fun i _ => p.length - (intOf i).toNat)
 case atStart => obtain ⟨xs, ho⟩ := hown'; exact ⟨0, Nat.zero_le _, rfl, hbel, xs, ho, fun j hj => by omega⟩
 case round =>
  clear hown' hbel
  obtain ⟨k, hk, rfl, hbel, xs, hown, hxs⟩ := hrel
  by_cases hlt : k < p.length
  ·rcases h with h | ⟨b, off, rfl, hb, hc⟩
   ·omega
   have hck := (hbel.cell (p := ⟨b, off + k, none⟩) hb).trans (hc k hlt)
   obtain ⟨s, hs⟩ : ∃ s, gS p k = s := ⟨_, rfl⟩
   rw [hs] at hck
   obtain ⟨u0, hu0⟩ := owns_cell hown k (by omega)
   have f0 := hown.frozenAt k
   have hlen := hown.1
   have HR := hid (hown.stored k (.string s)).1
   have HX : Hid (∀ j, j < k + 1 → (xs.set k (.string s))[j]? = some (.string (gS p j))) := hid (fun j hj => by
    by_cases hjk : j = k
    ·subst hjk; rw [List.getElem?_set_self (by omega), hs]
    ·rw [List.getElem?_set_ne (by omega)]; exact hxs j (by omega))
   have HB := hid (hbel.setCell (p := ⟨w.heap.size, k, none⟩) (Nat.le_refl _) (.string s))
   have i1 : (0 : Int) ≤ (k : Int) := Int.natCast_nonneg _
   have i2 : (k : Int) < (p.length : Int) := by omega
   clear hown hxs hlen hbel hc hs
   go_wp2_with fail
   go_roundw
   case rel => exact ⟨k + 1, hlt, by go_num, HB.out, _, HR.out, HX.out⟩
   case measure => simp [intOf]; omega
  ·obtain rfl : k = p.length := by omega
   have hlw := (hown.lt w.heap.size rfl).2
   have hsg : SSeg wr (some ⟨w.heap.size, 0, none⟩) p := .inr ⟨w.heap.size, 0, rfl, hlw, fun i hi => by
    rw [Nat.zero_add, hown.cellAt _ (by omega)]; exact hxs i hi⟩
   have HR := hid hsg
   have HO := hid hown
   have HB := hid hbel
   clear hown hxs hsg hbel h
   go_wp2_with fail
   go_ret
   exact ⟨rfl, HR.out, HB.out, hlw, _, HO.out⟩
theorem toDotC (r q : Int) (w : World) :
  Calls Tryz.prog 71 #[.agg #[.int .i64 r, .int .i64 q]] w fun e w' => e = .returned (.agg #[.int .i64 r, .int .i64 q]) ∧ Below w.heap.size w w' := by
 go_enter Tryz.func71, Tryz.ntmps71
 go_wp2
 refine bodyPost_ret (v := .agg #[.int .i64 r, .int .i64 q]) (by simp [results, Tryz.results71, go_sem]) rfl ⟨rfl, ?_⟩
 exact (((Below.refl _ _).alloc (Nat.le_refl _) _).alloc (by simp) _).alloc (by simp; omega) _
structure Bx5 (w : World) (b : Nat) (v0 v1 v2 v3 v4 : Value) : Prop where
 c0 : w.cell? ⟨b, 0, none⟩ = some v0
 c1 : w.cell? ⟨b, 1, none⟩ = some v1
 c2 : w.cell? ⟨b, 2, none⟩ = some v2
 c3 : w.cell? ⟨b, 3, none⟩ = some v3
 c4 : w.cell? ⟨b, 4, none⟩ = some v4
 f : ∀ i, w.frozen? ⟨b, i, none⟩ = false
 lt : b < w.heap.size
theorem Bx5.below {w w' : World} {B b : Nat} {v0 v1 v2 v3 v4 : Value} (h : Bx5 w b v0 v1 v2 v3 v4) (hb : Below B w w') (hB : b < B) : Bx5 w' b v0 v1 v2 v3 v4 :=
 ⟨(hb.cell (p := ⟨b, 0, none⟩) hB).trans h.c0, (hb.cell (p := ⟨b, 1, none⟩) hB).trans h.c1, (hb.cell (p := ⟨b, 2, none⟩) hB).trans h.c2, (hb.cell (p := ⟨b, 3, none⟩) hB).trans h.c3, (hb.cell (p := ⟨b, 4, none⟩) hB).trans h.c4, fun i => (hb.frozen (p := ⟨b, i, none⟩) hB).trans (h.f i), Nat.lt_of_lt_of_le h.lt hb.size⟩
theorem SSeg.same {w w1 : World} {a : Option Addr} {p : List ByteArray} (h : SSeg w a p) (hs : w.heap.size ≤ w1.heap.size) (hk : ∀ x, a = some x → w1.heap[x.block]? = w.heap[x.block]?) : SSeg w1 a p := by
 refine h.imp id ?_
 rintro ⟨b, off, rfl, hlt, hc⟩
 refine ⟨b, off, rfl, Nat.lt_of_lt_of_le hlt hs, fun i hi => ?_⟩
 have e := hk _ rfl
 rw [← hc i hi]
 unfold World.cell?
 simp only [e]
theorem SSeg.set {w : World} {a : Option Addr} {p : List ByteArray} (h : SSeg w a p) (q : Addr) (u : Value) (hq : ∀ x, a = some x → x.block ≠ q.block) : SSeg (w.setCell q u) a p :=
 h.same (by simp [World.setCell]) (fun x hx => Below.heap_setCell _ _ _ _ (hq x hx))
theorem Bx5.setAt {w : World} {b : Nat} {v0 v1 v2 v3 v4 : Value} (h : Bx5 w b v0 v1 v2 v3 v4) (q : Addr) (u : Value) (hq : q.block ≠ b) : Bx5 (w.setCell q u) b v0 v1 v2 v3 v4 :=
 ⟨by rw [World.cell?_setCell_far _ _ _ _ hq]; exact h.c0, by rw [World.cell?_setCell_far _ _ _ _ hq]; exact h.c1, by rw [World.cell?_setCell_far _ _ _ _ hq]; exact h.c2, by rw [World.cell?_setCell_far _ _ _ _ hq]; exact h.c3, by rw [World.cell?_setCell_far _ _ _ _ hq]; exact h.c4, fun i => by rw [World.frozen?_setCell]; exact h.f i, by simp [World.setCell]; exact h.lt⟩
theorem Bx5.set0 {w : World} {b : Nat} {v0 v1 v2 v3 v4 : Value} (h : Bx5 w b v0 v1 v2 v3 v4) (u : Value) : Bx5 (w.setCell ⟨b, 0, none⟩ u) b u v1 v2 v3 v4 :=
 ⟨World.cell?_setCell_same _ _ _ h.c0, by simp [World.cell?_setCell_other, h.c1], by simp [World.cell?_setCell_other, h.c2], by simp [World.cell?_setCell_other, h.c3], by simp [World.cell?_setCell_other, h.c4], fun i => by rw [World.frozen?_setCell]; exact h.f i, by simp [World.setCell]; exact h.lt⟩
theorem Bx5.set1 {w : World} {b : Nat} {v0 v1 v2 v3 v4 : Value} (h : Bx5 w b v0 v1 v2 v3 v4) (u : Value) : Bx5 (w.setCell ⟨b, 1, none⟩ u) b v0 u v2 v3 v4 :=
 ⟨by simp [World.cell?_setCell_other, h.c0], World.cell?_setCell_same _ _ _ h.c1, by simp [World.cell?_setCell_other, h.c2], by simp [World.cell?_setCell_other, h.c3], by simp [World.cell?_setCell_other, h.c4], fun i => by rw [World.frozen?_setCell]; exact h.f i, by simp [World.setCell]; exact h.lt⟩
theorem three {w w1 : World} {c0 c1 c2 : Obj} (b1 : Below (((w.alloc c0).alloc c1).alloc c2).heap.size (((w.alloc c0).alloc c1).alloc c2) w1) :
  ((∀ i, w1.cell? ⟨w.heap.size, i, none⟩ = (w.alloc c0).cell? ⟨w.heap.size, i, none⟩) ∧ (∀ i, w1.cell? ⟨w.heap.size + 1, i, none⟩ = ((w.alloc c0).alloc c1).cell? ⟨w.heap.size + 1, i, none⟩) ∧ (∀ i, w1.cell? ⟨w.heap.size + 1 + 1, i, none⟩ = (((w.alloc c0).alloc c1).alloc c2).cell? ⟨w.heap.size + 1 + 1, i, none⟩)) ∧
  (∀ i, w1.frozen? ⟨w.heap.size + 1, i, none⟩ = ((w.alloc c0).alloc c1).frozen? ⟨w.heap.size + 1, i, none⟩) ∧ (∀ i, w1.frozen? ⟨w.heap.size + 1 + 1, i, none⟩ = (((w.alloc c0).alloc c1).alloc c2).frozen? ⟨w.heap.size + 1 + 1, i, none⟩) := by
 have A2 : Below ((w.alloc c0).alloc c1).heap.size ((w.alloc c0).alloc c1) w1 := ((Below.refl _ _).alloc (Nat.le_refl _) c2).trans (b1.mono (by simp))
 have A1 : Below (w.alloc c0).heap.size (w.alloc c0) w1 := ((Below.refl _ _).alloc (Nat.le_refl _) c1).trans (A2.mono (by simp))
 exact ⟨⟨fun i => A1.cell (p := ⟨w.heap.size, i, none⟩) (by simp), fun i => A2.cell (p := ⟨w.heap.size + 1, i, none⟩) (by simp), fun i => b1.cell (p := ⟨w.heap.size + 1 + 1, i, none⟩) (by simp)⟩, fun i => A2.frozen (p := ⟨w.heap.size + 1, i, none⟩) (by simp), fun i => b1.frozen (p := ⟨w.heap.size + 1 + 1, i, none⟩) (by simp)⟩
def PMk (w : World) (g n : Nat) : Prop := ∃ cur, w.heap[g]? = some (.cells cur 9 (0, 0)) ∧ n ≤ cur.size
theorem PMk.same {w w' : World} {g n : Nat} (h : PMk w g n) (e : w'.heap[g]? = w.heap[g]?) : PMk w' g n := by
 obtain ⟨cur, h1, h2⟩ := h; exact ⟨cur, e.trans h1, h2⟩
theorem PMk.set {w : World} {g n : Nat} (h : PMk w g n) (q : Addr) (u : Value) (hq : g ≠ q.block) : PMk (w.setCell q u) g n := h.same (Below.heap_setCell _ _ _ _ hq)
theorem PMk.of {w : World} {B g n : Nat} {xs : List Value} (h : w.ownsRow B 9 1 (.slice (some ⟨g, 0, none⟩) n n) n xs) : PMk w g n := by
 rcases h.2 with ⟨h0, _⟩ | ⟨g', cap', cur, hv, hbase, hb, h1, h2, h3, h4⟩
 ·cases h0
 ·cases hv
  exact ⟨cur, hb, by omega⟩
theorem toLeafC (a : Option Addr) (c : Nat) (p : List ByteArray) (fl : Bool) (r q : Int) (v : ByteArray) (w : World) (hn : p.length ≤ 1048576) (h : SSeg w a p) :
  Calls Tryz.prog 52 #[.agg #[.slice a p.length c, .bool fl, .int .i64 r, .int .i64 q, .string v]] w fun e w' => ∃ g, w.heap.size ≤ g ∧ (g < w'.heap.size ∧ PMk w' g p.length) ∧ e = .returned (.agg #[.slice (some ⟨g, 0, none⟩) p.length p.length, .bool fl, .int .i64 r, .int .i64 q, .string v]) ∧ SSeg w' (some ⟨g, 0, none⟩) p ∧ Below w.heap.size w w' := by
 go_enter Tryz.func52, Tryz.ntmps52
 go_wp2_with fail
 refine (toStrings a c p _ hn (h.below ((((Below.refl _ _).alloc (Nat.le_refl _) _).alloc (by simp) _).alloc (by simp; omega) _))).mono ?_
 rintro e w1 ⟨rfl, s1, b1, z1, xs, o1⟩
 obtain ⟨⟨hc0, hc1, hc2⟩, hf1, hf2⟩ := three b1
 have B0 : Below w.heap.size w w1 := ((((Below.refl _ _).alloc (Nat.le_refl _) _).alloc (by simp) _).alloc (by simp; omega) _).trans (b1.mono (by simp; omega))
 have hz : w.heap.size + 1 + 1 + 1 < w1.heap.size := by have := z1; simp at this; omega
 simp only [World.size_alloc] at s1 o1
 have HS := hid s1
 have HM := hid (PMk.of o1)
 have HB := hid B0
 have k1 : w1.cell? ⟨w.heap.size, 1, none⟩ = some (.bool fl) := by rw [hc0]; simp
 have k2 : w1.cell? ⟨w.heap.size, 2, none⟩ = some (.int .i64 r) := by rw [hc0]; simp
 have k3 : w1.cell? ⟨w.heap.size, 3, none⟩ = some (.int .i64 q) := by rw [hc0]; simp
 have k4 : w1.cell? ⟨w.heap.size, 4, none⟩ = some (.string v) := by rw [hc0]; simp
 have ho : Bx5 w1 (w.heap.size + 1) (.slice none 0 0) (.bool false) (.int .i64 0) (.int .i64 0) (.string ByteArray.empty) := ⟨by rw [hc1, World.cell?_alloc_at _ _ _ _ (by simp)]; rfl, by rw [hc1, World.cell?_alloc_at _ _ _ _ (by simp)]; rfl, by rw [hc1, World.cell?_alloc_at _ _ _ _ (by simp)]; rfl, by rw [hc1, World.cell?_alloc_at _ _ _ _ (by simp)]; rfl, by rw [hc1, World.cell?_alloc_at _ _ _ _ (by simp)]; rfl, fun i => by rw [hf1, World.frozen?_alloc_at _ _ _ _ (by simp)], by omega⟩
 have hx : Bx5 w1 (w.heap.size + 1 + 1) (.slice none 0 0) (.bool false) (.int .i64 0) (.int .i64 0) (.string ByteArray.empty) := ⟨by rw [hc2, World.cell?_alloc_at _ _ _ _ (by simp)]; rfl, by rw [hc2, World.cell?_alloc_at _ _ _ _ (by simp)]; rfl, by rw [hc2, World.cell?_alloc_at _ _ _ _ (by simp)]; rfl, by rw [hc2, World.cell?_alloc_at _ _ _ _ (by simp)]; rfl, by rw [hc2, World.cell?_alloc_at _ _ _ _ (by simp)]; rfl, fun i => by rw [hf2, World.frozen?_alloc_at _ _ _ _ (by simp)], by omega⟩
 clear s1 B0 b1 z1 o1 hc0 hc1 hc2 hf1 hf2 h
 have x0 := hx.c0
 have x1 := hx.c1
 have fx := hx.f
 have HO := hid ho
 have HX := hid hx
 clear ho hx
 go_wp2_with fail
 obtain ⟨W, hW⟩ : ∃ W, (w1.setCell ⟨w.heap.size + 1 + 1, 0, none⟩ (.slice (some ⟨w.heap.size + 1 + 1 + 1, 0, none⟩) p.length p.length)).setCell ⟨w.heap.size + 1 + 1, 1, none⟩ (.bool fl) = W := ⟨_, rfl⟩
 have hX : Bx5 W (w.heap.size + 1 + 1) (.slice (some ⟨w.heap.size + 1 + 1 + 1, 0, none⟩) p.length p.length) (.bool fl) (.int .i64 0) (.int .i64 0) (.string ByteArray.empty) := by rw [← hW]; exact (HX.out.set0 _).set1 _
 have hO : Bx5 W (w.heap.size + 1) (.slice none 0 0) (.bool false) (.int .i64 0) (.int .i64 0) (.string ByteArray.empty) := by rw [← hW]; exact (HO.out.setAt _ _ (by simp)).setAt _ _ (by simp)
 have hS : SSeg W (some ⟨w.heap.size + 1 + 1 + 1, 0, none⟩) p := by rw [← hW]; exact (HS.out.set _ _ (fun x hx => by simp at hx; subst hx; simp)).set _ _ (fun x hx => by simp at hx; subst hx; simp)
 have hM : PMk W (w.heap.size + 1 + 1 + 1) p.length := by rw [← hW]; exact (HM.out.set _ _ (by simp)).set _ _ (by simp)
 have hB : Below w.heap.size w W := by rw [← hW]; exact (HB.out.setCell (by simp; omega) _).setCell (by simp; omega) _
 have k4' : W.cell? ⟨w.heap.size, 4, none⟩ = some (.string v) := by rw [← hW, World.cell?_setCell_far _ _ _ _ (by simp; omega), World.cell?_setCell_far _ _ _ _ (by simp; omega)]; exact k4
 have zW : w.heap.size + 1 + 1 + 1 < W.heap.size := by rw [← hW]; simp [World.setCell]; exact hz
 rw [hW]
 clear hW HX HO HS HM HB k1 k2 k3 k4 x0 x1 fx hz
 refine (toDotC r q W).mono ?_
 rintro e w2 ⟨rfl, b2⟩
 have m4 := (b2.cell (p := ⟨w.heap.size, 4, none⟩) (show w.heap.size < W.heap.size by omega)).trans k4'
 have HX := hid (hX.below b2 (by omega))
 have HO := hid (hO.below b2 (by omega))
 have HS := hid (hS.below b2)
 have HM := hid (hM.same (b2.block _ zW))
 have HB := hid (hB.trans (b2.mono hB.size))
 have hz : w.heap.size + 1 + 1 + 1 < w2.heap.size := Nat.lt_of_lt_of_le zW b2.size
 have fx := HX.out.f
 have x0 := HX.out.c0
 have x1 := HX.out.c1
 have x2 := HX.out.c2
 have x3 := HX.out.c3
 have x4 := HX.out.c4
 have fo := HO.out.f
 have o0 := HO.out.c0
 have o1 := HO.out.c1
 have o2 := HO.out.c2
 have o3 := HO.out.c3
 have o4 := HO.out.c4
 clear hX hO hS hM hB b2 k4' zW
 go_wp2_with fail
 refine bodyPost_ret (v := .agg #[.slice (some ⟨w.heap.size + 1 + 1 + 1, 0, none⟩) p.length p.length, .bool fl, .int .i64 r, .int .i64 q, .string v]) (by simp [results, Tryz.results52, go_sem, o0, o1, o2, o3, o4]) rfl ⟨w.heap.size + 1 + 1 + 1, by omega, ⟨by simp [World.setCell]; omega, ?_⟩, rfl, ?_, ?_⟩
 ·repeat (refine PMk.set ?_ _ _ (by simp; try omega))
  exact HM.out
 ·repeat (refine SSeg.set ?_ _ _ (fun x hx => by simp at hx; subst hx; simp; try omega))
  exact HS.out
 ·repeat (refine Below.setCell ?_ (by simp; try omega) _)
  exact HB.out
end Go.Proofs.YtcbcabhjododoaaGreat
