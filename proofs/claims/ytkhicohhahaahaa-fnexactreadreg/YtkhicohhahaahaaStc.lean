import Derived.Test.YtkhicohhahaahaaStb
namespace Go.Proofs.Ytkhicohhahaahaa
open Go.ChangeShapes Go.WideShapes Go.ChangeAt Go.RowKit
set_option linter.unusedVariables false
set_option linter.unusedSimpArgs false

theorem infoStr : (Try.prog.info? 9).map (fun i => (i.zero, i.size, i.bytes)) = some (some (.string ByteArray.empty), 1, 16) := by kernel_rfl
set_option maxRecDepth 100000 in
set_option maxHeartbeats 1000000 in
theorem toStrings (a : Option Addr) (c : Nat) (p : List ByteArray) (w : World) (hn : p.length ≤ 1048576) (h : SSeg w a p) :
    Calls Try.prog 8 #[.slice a p.length c] w fun e w' => e = .returned (.slice (some ⟨w.heap.size, 0, none⟩) p.length p.length) ∧ SSeg w' (some ⟨w.heap.size, 0, none⟩) p ∧ Below w.heap.size w w' ∧ w.heap.size < w'.heap.size ∧ ∃ xs, w'.ownsRow w.heap.size 9 1 (.slice (some ⟨w.heap.size, 0, none⟩) p.length p.length) p.length xs := by
  obtain ⟨i0, hi, hz0, hz1, hz2⟩ := info_parts infoStr
  have hm : p.length ≤ maxLen := by unfold maxLen; omega
  have hby : i0.bytes * p.length ≤ 281474976710656 := by rw [hz2]; omega
  go_enter Try.func8, Try.ntmps8
  go_wp2_with (at_make; refine wpList_make_full _ rfl _ _ 28 rfl w.heap.size 9 i0 _ 1 Try.underlying28 hi hz0 hz1 _ _ _ _ p.length rfl rfl rfl rfl hby hm (Nat.le_refl _) ?_; intro w1 hown hgr)
  have hbel : Below w.heap.size w w1 := (Below.refl _ _).grown hgr (Nat.le_refl _) (fun _ h => by cases h)
  have hown' : ∃ xs, w1.ownsRow w.heap.size 9 1 (.slice (some ⟨w.heap.size, 0, none⟩) p.length p.length) p.length xs := ⟨_, hown⟩
  clear hown hgr
  go_loopw [4] (fun i wr => ∃ k : Nat, k ≤ p.length ∧ i = .int .i64 k ∧ Below w.heap.size w wr ∧ ∃ xs : List Value, wr.ownsRow w.heap.size 9 1 (.slice (some ⟨w.heap.size, 0, none⟩) p.length p.length) p.length xs ∧ ∀ j, j < k → xs[j]? = some (.string (gS p j))) (fun i _ => p.length - (intOf i).toNat)
  case atStart => obtain ⟨xs, ho⟩ := hown'; exact ⟨0, Nat.zero_le _, rfl, hbel, xs, ho, fun j hj => by omega⟩
  case round =>
    clear hown' hbel
    obtain ⟨k, hk, rfl, hbel, xs, hown, hxs⟩ := hrel
    by_cases hlt : k < p.length
    · rcases h with h | ⟨b, off, rfl, hb, hc⟩
      · omega
      have hck := (hbel.cell (p := ⟨b, off + k, none⟩) hb).trans (hc k hlt)
      obtain ⟨s, hs⟩ : ∃ s, gS p k = s := ⟨_, rfl⟩
      rw [hs] at hck
      obtain ⟨u0, hu0⟩ := owns_cell hown k (by omega)
      have f0 := hown.frozenAt k
      have hlen := hown.1
      have HR := hid (hown.stored k (.string s)).1
      have HX : Hid (∀ j, j < k + 1 → (xs.set k (.string s))[j]? = some (.string (gS p j))) := hid (fun j hj => by
        by_cases hjk : j = k
        · subst hjk; rw [List.getElem?_set_self (by omega), hs]
        · rw [List.getElem?_set_ne (by omega)]; exact hxs j (by omega))
      have HB := hid (hbel.setCell (p := ⟨w.heap.size, k, none⟩) (Nat.le_refl _) (.string s))
      have i1 : (0 : Int) ≤ (k : Int) := Int.natCast_nonneg _
      have i2 : (k : Int) < (p.length : Int) := by omega
      clear hown hxs hlen hbel hc hs
      go_wp2_with fail
      go_roundw
      case rel => exact ⟨k + 1, hlt, by go_num, HB.out, _, HR.out, HX.out⟩
      case measure => simp [intOf]; omega
    · obtain rfl : k = p.length := by omega
      have hlw := (hown.lt w.heap.size rfl).2
      have hsg : SSeg wr (some ⟨w.heap.size, 0, none⟩) p := .inr ⟨w.heap.size, 0, rfl, hlw, fun i hi => by
        rw [Nat.zero_add, hown.cellAt _ (by omega)]; exact hxs i hi⟩
      have HR := hid hsg
      have HO := hid hown
      have HB := hid hbel
      clear hown hxs hsg hbel h
      go_wp2_with fail
      go_ret
      exact ⟨rfl, HR.out, HB.out, hlw, _, HO.out⟩

set_option maxHeartbeats 400000 in
theorem toDotC (r q : Int) (w : World) :
    Calls Try.prog 52 #[.agg #[.int .i64 r, .int .i64 q]] w fun e w' => e = .returned (.agg #[.int .i64 r, .int .i64 q]) ∧ Below w.heap.size w w' := by
  go_enter Try.func52, Try.ntmps52
  go_wp2
  refine bodyPost_ret (v := .agg #[.int .i64 r, .int .i64 q]) (by simp [results, Try.results52, go_sem]) rfl ⟨rfl, ?_⟩
  exact (((Below.refl _ _).alloc (Nat.le_refl _) _).alloc (by simp) _).alloc (by simp; omega) _

structure Bx5 (w : World) (b : Nat) (v0 v1 v2 v3 v4 : Value) : Prop where
  c0 : w.cell? ⟨b, 0, none⟩ = some v0
  c1 : w.cell? ⟨b, 1, none⟩ = some v1
  c2 : w.cell? ⟨b, 2, none⟩ = some v2
  c3 : w.cell? ⟨b, 3, none⟩ = some v3
  c4 : w.cell? ⟨b, 4, none⟩ = some v4
  f : ∀ i, w.frozen? ⟨b, i, none⟩ = false
  lt : b < w.heap.size
theorem Bx5.below {w w' : World} {B b : Nat} {v0 v1 v2 v3 v4 : Value} (h : Bx5 w b v0 v1 v2 v3 v4) (hb : Below B w w') (hB : b < B) : Bx5 w' b v0 v1 v2 v3 v4 :=
  ⟨(hb.cell (p := ⟨b, 0, none⟩) hB).trans h.c0, (hb.cell (p := ⟨b, 1, none⟩) hB).trans h.c1, (hb.cell (p := ⟨b, 2, none⟩) hB).trans h.c2, (hb.cell (p := ⟨b, 3, none⟩) hB).trans h.c3, (hb.cell (p := ⟨b, 4, none⟩) hB).trans h.c4, fun i => (hb.frozen (p := ⟨b, i, none⟩) hB).trans (h.f i), Nat.lt_of_lt_of_le h.lt hb.size⟩
end Go.Proofs.Ytkhicohhahaahaa
