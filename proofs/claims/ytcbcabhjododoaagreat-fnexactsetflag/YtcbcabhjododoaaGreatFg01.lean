import Derived.Test.YtcbcabhjododoaaGreatRows
import Derived.WalkKit
import Derived.ProofKit
import Derived.OpenShut
import Derived.ShutString
import Derived.ChangeOld
import Derived.Below
import Derived.WalkLawsBesides
import Derived.WalkSpells
import Derived.Outline
import Derived.Deep.RegionHeld3
set_option linter.unusedVariables false
set_option linter.unusedSimpArgs false
set_option maxRecDepth 100000
set_option maxHeartbeats 40000000
namespace Go.Proofs.YtcbcabhjododoaaGreat
open Go.ChangeShapes Go.WideShapes Go.ChangeAt Go.RowKit
theorem hid {p : Prop} (h : p) : Hid p := h
def I64 (f : Nat → Int) : Prop := ∀ i, -9223372036854775808 ≤ f i ∧ f i ≤ 9223372036854775807
def RSeg (w : World) (a : Option Addr) (n : Nat) (R F T : Nat → Int) : Prop :=
 n = 0 ∨ ∃ b off, a = some ⟨b, off, none⟩ ∧ b < w.heap.size ∧ ∀ i, i < n → w.cell? ⟨b, off + i * 3, none⟩ = some (.int .i64 (R i)) ∧ w.cell? ⟨b, off + i * 3 + 1, none⟩ = some (.int .i64 (F i)) ∧ w.cell? ⟨b, off + i * 3 + 2, none⟩ = some (.int .i64 (T i))
theorem RSeg.kept {w w1 : World} {B : Nat} {a : Option Addr} {n : Nat} {R F T : Nat → Int} (h : RSeg w a n R F T) (hb : Below B w w1) (hc : ∀ x, a = some x → x.block < B) : RSeg w1 a n R F T := by
 rcases h with h | ⟨b, off, rfl, hlt, hcell⟩
 ·exact .inl h
 ·have hB : b < B := hc ⟨b, off, none⟩ rfl
  refine .inr ⟨b, off, rfl, Nat.lt_of_lt_of_le hlt hb.size, fun i hi => ?_⟩
  obtain ⟨h1, h2, h3⟩ := hcell i hi
  exact ⟨(hb.cell (p := ⟨b, _, none⟩) hB).trans h1, (hb.cell (p := ⟨b, _, none⟩) hB).trans h2, (hb.cell (p := ⟨b, _, none⟩) hB).trans h3⟩
theorem RSeg.below {w w1 : World} {a : Option Addr} {n : Nat} {R F T : Nat → Int} (h : RSeg w a n R F T) (hb : Below w.heap.size w w1) : RSeg w1 a n R F T := by
 rcases h with h | ⟨b, off, rfl, hlt, hcell⟩
 ·exact .inl h
 ·exact RSeg.kept (.inr ⟨b, off, rfl, hlt, hcell⟩) hb (fun x hx => by simp at hx; subst hx; exact hlt)
theorem RSeg.same {w w1 : World} {a : Option Addr} {n : Nat} {R F T : Nat → Int} (h : RSeg w a n R F T) (hs : w.heap.size ≤ w1.heap.size) (hc : ∀ x, a = some x → w1.heap[x.block]? = w.heap[x.block]?) : RSeg w1 a n R F T := by
 rcases h with h | ⟨b, off, rfl, hlt, hcell⟩
 ·exact .inl h
 ·have hB : w1.heap[b]? = w.heap[b]? := hc ⟨b, off, none⟩ rfl
  have hC : ∀ o, w1.cell? ⟨b, o, none⟩ = w.cell? ⟨b, o, none⟩ := fun o => World.cell?_of_block (w := w) (w' := w1) (a := ⟨b, o, none⟩) hB
  refine .inr ⟨b, off, rfl, Nat.lt_of_lt_of_le hlt hs, fun i hi => ?_⟩
  obtain ⟨h1, h2, h3⟩ := hcell i hi
  exact ⟨(hC _).trans h1, (hC _).trans h2, (hC _).trans h3⟩
theorem RSeg.set {w : World} {a : Option Addr} {n : Nat} {R F T : Nat → Int} (h : RSeg w a n R F T) (p : Addr) (u : Value) (hp : ∀ x, a = some x → x.block ≠ p.block) : RSeg (w.setCell p u) a n R F T :=
 h.same (by simp [World.setCell]) (fun x hx => Below.heap_setCell _ _ _ _ (hp x hx))
def runOkB (r f t : Int) : Bool := decide (0 ≤ r ∧ r < 8 ∧ 1 ≤ f ∧ f ≤ t ∧ t ≤ 1000000000)
def apartB (r t r' f' : Int) : Bool := decide (r < r' ∨ (r = r' ∧ t + 1 < f'))
theorem runOk_true {r f t : Int} (h : 0 ≤ r ∧ r < 8 ∧ 1 ≤ f ∧ f ≤ t ∧ t ≤ 1000000000) : runOkB r f t = true := by unfold runOkB; exact decide_eq_true h
theorem runOk_false {r f t : Int} (h : ¬ (0 ≤ r ∧ r < 8 ∧ 1 ≤ f ∧ f ≤ t ∧ t ≤ 1000000000)) : runOkB r f t = false := by unfold runOkB; exact decide_eq_false h
theorem runOk_iff {r f t : Int} : runOkB r f t = true ↔ (0 ≤ r ∧ r < 8 ∧ 1 ≤ f ∧ f ≤ t ∧ t ≤ 1000000000) := by unfold runOkB; simp
theorem retB {a b : Bool} (h : a = b) : Ending.returned (.bool a) = .returned (.bool b) := by rw [h]
def szLeft (l : Int) (n : Nat) : Int := if l < n then -1 else l - n
theorem ret_int {k : IntKind} {a b : Int} (h : a = b) : Ending.returned (.int k a) = .returned (.int k b) := by rw [h]
theorem szRunS (a : Option Addr) (n c : Nat) (l : Int) (w : World) (hn : n ≤ 9223372036854775807) (hl : 0 ≤ l) (hl' : l ≤ 1048576) :
  Calls Tryz.prog 42 #[.slice a n c, .int .i64 l] w fun e w' => e = .returned (.int .i64 (szLeft l n)) ∧ w' = w := by
 by_cases h : l < n
 ·have HE : Hid (szLeft l n = -1) := if_pos h
  go_enter Tryz.func42, Tryz.ntmps42
  go_wp2
  go_ret
  exact ⟨ret_int HE.out.symm, rfl⟩
 ·have HE : Hid (szLeft l n = l - n) := if_neg h
  go_enter Tryz.func42, Tryz.ntmps42
  go_wp2
  go_ret
  exact ⟨ret_int HE.out.symm, rfl⟩
theorem szContext (a : Option Addr) (n c : Nat) (l : Int) (w : World) (hn : n ≤ 9223372036854775807) (hl : 0 ≤ l) (hl' : l ≤ 1048576) :
  Calls Tryz.prog 22 #[.agg #[.slice a n c], .int .i64 l] w fun e w' => e = .returned (.int .i64 (szLeft l n)) ∧ Below w.heap.size w w' := by
 go_enter Tryz.func22, Tryz.ntmps22
 go_wp2_with fail
 refine (szRunS a n c l _ hn hl hl').mono ?_
 rintro e w1 ⟨rfl, rfl⟩
 by_cases h : l < n
 ·have HE : Hid (szLeft l n = -1) := if_pos h
  rw [HE.out]
  go_wp2_with fail
  go_ret
  exact ⟨ret_int HE.out.symm, (Below.refl _ _).alloc (Nat.le_refl _) _⟩
 ·have HE : Hid (szLeft l n = l - n) := if_neg h
  rw [HE.out]
  go_wp2_with fail
  go_ret
  exact ⟨ret_int HE.out.symm, (Below.refl _ _).alloc (Nat.le_refl _) _⟩
theorem toRun (r f t : Int) (w : World) :
  Calls Tryz.prog 72 #[.agg #[.int .i64 r, .int .i64 f, .int .i64 t]] w fun e w' => e = .returned (.agg #[.int .i64 r, .int .i64 f, .int .i64 t]) ∧ Below w.heap.size w w' ∧ w.heap.size < w'.heap.size := by
 go_enter Tryz.func72, Tryz.ntmps72
 go_wp2
 refine bodyPost_ret (v := .agg #[.int .i64 r, .int .i64 f, .int .i64 t]) (by simp [results, Tryz.results72, go_sem]) rfl ⟨rfl, ?_, by simp; omega⟩
 exact (((Below.refl _ _).alloc (Nat.le_refl _) _).alloc (by simp) _).alloc (by simp; omega) _
theorem Tryz.infoRun : (Tryz.prog.info? 94).map (fun i => (i.zero, i.size, i.bytes)) = some (some (.agg #[.int .i64 0, .int .i64 0, .int .i64 0]), 3, 24) := by kernel_rfl
theorem bcell {W w1 : World} (hb : Below W.heap.size W w1) : (∀ b o, b < W.heap.size → w1.cell? ⟨b, o, none⟩ = W.cell? ⟨b, o, none⟩) ∧ (∀ b o, b < W.heap.size → w1.frozen? ⟨b, o, none⟩ = W.frozen? ⟨b, o, none⟩) :=
 ⟨fun b o h => hb.cell (p := ⟨b, o, none⟩) h, fun b o h => hb.frozen (p := ⟨b, o, none⟩) h⟩
theorem owns_below {w w1 : World} {B C : Nat} {e : TypeId} {size : Nat} {v : Value} {n : Nat} {xs : List Value} (h : w.ownsRow B e size v n xs) (hb : Below C w w1) (hc : ∀ k, v.ownBlock = some k → k < C) : w1.ownsRow B e size v n xs := by
 obtain ⟨h1, h2⟩ := h
 refine ⟨h1, ?_⟩
 rcases h2 with h2 | ⟨g, cap, cur, rfl, hbg, hg, r⟩
 ·exact .inl h2
 ·exact .inr ⟨g, cap, cur, rfl, hbg, by rw [hb.block g (hc g rfl)]; exact hg, r⟩
theorem owns_cell {w : World} {B : Nat} {e : TypeId} {size g n cap : Nat} {xs : List Value} (h : w.ownsRow B e size (.slice (some ⟨g, 0, none⟩) n cap) n xs) (j : Nat) (hj : j < n * size) : ∃ u, w.cell? ⟨g, j, none⟩ = some u := by
 rw [h.cellAt j hj]
 have := h.1
 exact ⟨_, List.getElem?_eq_getElem (by omega)⟩
theorem toRunO (a : Option Addr) (n c : Nat) (R F T : Nat → Int) (w : World) (hn : n ≤ 1048576) (h : RSeg w a n R F T) :
  Calls Tryz.prog 53 #[.slice a n c] w fun e w' => e = .returned (.slice (some ⟨w.heap.size, 0, none⟩) n n) ∧ RSeg w' (some ⟨w.heap.size, 0, none⟩) n R F T ∧ Below w.heap.size w w' ∧ w.heap.size < w'.heap.size ∧ ∃ xs, w'.ownsRow w.heap.size 94 3 (.slice (some ⟨w.heap.size, 0, none⟩) n n) n xs := by
 obtain ⟨i0, hi, hz0, hz1, hz2⟩ := info_parts Tryz.infoRun
 have hm : n ≤ maxLen := by unfold maxLen; omega
 have hby : i0.bytes * n ≤ 281474976710656 := by rw [hz2]; omega
 rcases h with h | ⟨b, off, rfl, hb, hc⟩
 ·subst h
  go_enter Tryz.func53, Tryz.ntmps53
  go_wp2_with (at_make; refine wpList_make_full _ rfl _ _ 32 rfl w.heap.size 94 i0 _ 3 Tryz.underlying32 hi hz0 hz1 _ _ _ _ 0 rfl rfl rfl rfl hby hm (Nat.le_refl _) ?_; intro w1 hown hgr)
  refine wp_loop_rounds 1 ?_; rw [rounds_succ]; go_wp2_with fail
  go_ret
  exact ⟨rfl, .inl rfl, (Below.refl _ _).grown hgr (Nat.le_refl _) (fun _ h => by cases h), (hown.lt _ rfl).2, _, hown⟩
 ·go_enter Tryz.func53, Tryz.ntmps53
  go_wp2_with (at_make; refine wpList_make_full _ rfl _ _ 32 rfl w.heap.size 94 i0 _ 3 Tryz.underlying32 hi hz0 hz1 _ _ _ _ n rfl rfl rfl rfl hby hm (Nat.le_refl _) ?_; intro w1 hown hgr)
  have hbel : Below w.heap.size w w1 := (Below.refl _ _).grown hgr (Nat.le_refl _) (fun _ h => by cases h)
  have hown' : ∃ xs, w1.ownsRow w.heap.size 94 3 (.slice (some ⟨w.heap.size, 0, none⟩) n n) n xs := ⟨_, hown⟩
  clear hown hgr
  go_loopw [4] (fun i wr => ∃ k : Nat, k ≤ n ∧ i = .int .i64 k ∧ Below w.heap.size w wr ∧ ∃ xs : List Value, wr.ownsRow w.heap.size 94 3 (.slice (some ⟨w.heap.size, 0, none⟩) n n) n xs ∧ ∀ j, j < k → xs[j * 3]? = some (.int .i64 (R j)) ∧ xs[j * 3 + 1]? = some (.int .i64 (F j)) ∧ xs[j * 3 + 2]? = some (.int .i64 (T j))) (fun i _ => n - (intOf i).toNat)
  case atStart => obtain ⟨xs, ho⟩ := hown'; exact ⟨0, Nat.zero_le _, rfl, hbel, xs, ho, fun j hj => by omega⟩
  case round =>
   clear hown' hbel
   obtain ⟨k, hk, rfl, hbel, xs, hown, hxs⟩ := hrel
   by_cases hlt : k < n
   ·have hck : wr.cell? ⟨b, off + k * 3, none⟩ = some (.int .i64 (R k)) := (hbel.cell (p := ⟨b, _, none⟩) hb).trans (hc k hlt).1
    have hck1 : wr.cell? ⟨b, off + k * 3 + 1, none⟩ = some (.int .i64 (F k)) := (hbel.cell (p := ⟨b, _, none⟩) hb).trans (hc k hlt).2.1
    have hck2 : wr.cell? ⟨b, off + k * 3 + 2, none⟩ = some (.int .i64 (T k)) := (hbel.cell (p := ⟨b, _, none⟩) hb).trans (hc k hlt).2.2
    clear hc
    go_wp2_with fail
    refine (toRun _ _ _ _).mono ?_
    rintro e w2 ⟨rfl, b2, z2⟩
    have hlw := (hown.lt w.heap.size rfl).2
    have ho2 := owns_below hown b2 (fun k hk => by simp [Value.ownBlock] at hk; omega)
    have b02 := hbel.trans (b2.mono (by omega))
    obtain ⟨u0, hu0⟩ := owns_cell ho2 (k * 3) (by omega)
    obtain ⟨u1, hu1⟩ := owns_cell ho2 (k * 3 + 1) (by omega)
    obtain ⟨u2, hu2⟩ := owns_cell ho2 (k * 3 + 2) (by omega)
    have f0 := ho2.frozenAt (k * 3)
    have f1 := ho2.frozenAt (k * 3 + 1)
    have f2 := ho2.frozenAt (k * 3 + 2)
    have hlen := ho2.1
    have HR := hid (((ho2.stored (k * 3) (.int .i64 (R k))).1.stored (k * 3 + 1) (.int .i64 (F k))).1.stored (k * 3 + 2) (.int .i64 (T k))).1
    have HX : Hid (∀ j, j < k + 1 → (((xs.set (k * 3) (.int .i64 (R k))).set (k * 3 + 1) (.int .i64 (F k))).set (k * 3 + 2) (.int .i64 (T k)))[j * 3]? = some (.int .i64 (R j)) ∧ (((xs.set (k * 3) (.int .i64 (R k))).set (k * 3 + 1) (.int .i64 (F k))).set (k * 3 + 2) (.int .i64 (T k)))[j * 3 + 1]? = some (.int .i64 (F j)) ∧ (((xs.set (k * 3) (.int .i64 (R k))).set (k * 3 + 1) (.int .i64 (F k))).set (k * 3 + 2) (.int .i64 (T k)))[j * 3 + 2]? = some (.int .i64 (T j))) := by
     intro j hj
     by_cases hjk : j = k
     ·subst hjk
      refine ⟨?_, ?_, ?_⟩
      ·rw [List.getElem?_set_ne (by omega), List.getElem?_set_ne (by omega), List.getElem?_set_self (by omega)]
      ·rw [List.getElem?_set_ne (by omega), List.getElem?_set_self (by simp; omega)]
      ·rw [List.getElem?_set_self (by simp; omega)]
     ·obtain ⟨x0, x1, x2⟩ := hxs j (by omega)
      refine ⟨?_, ?_, ?_⟩
      ·rw [List.getElem?_set_ne (by omega), List.getElem?_set_ne (by omega), List.getElem?_set_ne (by omega)]; exact x0
      ·rw [List.getElem?_set_ne (by omega), List.getElem?_set_ne (by omega), List.getElem?_set_ne (by omega)]; exact x1
      ·rw [List.getElem?_set_ne (by omega), List.getElem?_set_ne (by omega), List.getElem?_set_ne (by omega)]; exact x2
    have HB := hid (((b02.setCell (p := ⟨w.heap.size, k * 3, none⟩) (Nat.le_refl _) (.int .i64 (R k))).setCell (p := ⟨w.heap.size, k * 3 + 1, none⟩) (Nat.le_refl _) (.int .i64 (F k))).setCell (p := ⟨w.heap.size, k * 3 + 2, none⟩) (Nat.le_refl _) (.int .i64 (T k)))
    clear hown ho2 hxs hlen b02 b2 hbel
    go_wp2_with fail
    go_roundw
    case rel => exact ⟨k + 1, hlt, by go_num, HB.out, _, HR.out, HX.out⟩
    case measure => simp [intOf]; omega
   ·obtain rfl : k = n := by omega
    have hlw := (hown.lt w.heap.size rfl).2
    have hsg : RSeg wr (some ⟨w.heap.size, 0, none⟩) k R F T := .inr ⟨w.heap.size, 0, rfl, hlw, fun i hi => by
     obtain ⟨x0, x1, x2⟩ := hxs i hi
     rw [Nat.zero_add, hown.cellAt _ (by omega), hown.cellAt _ (by omega), hown.cellAt _ (by omega)]
     exact ⟨x0, x1, x2⟩⟩
    have HR := hid hsg
    have HO := hid hown
    clear hown hxs hsg
    go_wp2_with fail
    go_ret
    exact ⟨rfl, HR.out, hbel, hlw, _, HO.out⟩
theorem owns_set {w : World} {B : Nat} {e : TypeId} {size g n cap : Nat} {xs : List Value} (h : w.ownsRow B e size (.slice (some ⟨g, 0, none⟩) n cap) n xs) (p : Addr) (u : Value) (hp : g ≠ p.block) : (w.setCell p u).ownsRow B e size (.slice (some ⟨g, 0, none⟩) n cap) n xs := by
 obtain ⟨h1, h2⟩ := h
 refine ⟨h1, ?_⟩
 rcases h2 with ⟨h2, _⟩ | ⟨g', cap', cur, e1, hb, hg, r⟩
 ·cases h2
 ·refine .inr ⟨g', cap', cur, e1, hb, ?_, r⟩
  injection e1 with e1
  injection e1 with e1
  injection e1 with e1
  subst e1
  exact (Below.heap_setCell _ _ _ _ hp).trans hg
theorem toContextO (a : Option Addr) (n c : Nat) (R F T : Nat → Int) (w : World) (hn : n ≤ 1048576) (h : RSeg w a n R F T) :
  Calls Tryz.prog 28 #[.agg #[.slice a n c]] w fun e w' => ∃ g, w.heap.size ≤ g ∧ g < w'.heap.size ∧ e = .returned (.agg #[.slice (some ⟨g, 0, none⟩) n n]) ∧ RSeg w' (some ⟨g, 0, none⟩) n R F T ∧ Below w.heap.size w w' ∧ ∃ xs, w'.ownsRow w.heap.size 94 3 (.slice (some ⟨g, 0, none⟩) n n) n xs := by
 go_enter Tryz.func28, Tryz.ntmps28
 go_wp2_with fail
 refine (toRunO a n c R F T _ hn (h.below ((((Below.refl _ _).alloc (Nat.le_refl _) _).alloc (by simp) _).alloc (by simp; omega) _))).mono ?_
 rintro e w1 ⟨rfl, s1, b1, z1, xs, o1⟩
 obtain ⟨hc, hf⟩ := bcell b1
 have B0 : Below w.heap.size w w1 := ((((Below.refl _ _).alloc (Nat.le_refl _) _).alloc (by simp) _).alloc (by simp; omega) _).trans (b1.mono (by simp; omega))
 have hz : w.heap.size + 1 + 1 + 1 < w1.heap.size := by have := z1; simp at this; omega
 simp only [World.size_alloc] at s1 o1
 have HO := hid o1
 have HS := hid s1
 have HB := hid B0
 clear s1 B0 b1 z1 o1
 go_wp2_with fail
 refine bodyPost_ret (v := .agg #[.slice (some ⟨w.heap.size + 1 + 1 + 1, 0, none⟩) n n]) (by simp [results, Tryz.results28, go_sem, hc]) rfl ⟨w.heap.size + 1 + 1 + 1, by omega, by simp [World.setCell]; omega, rfl, ?_, ?_, xs, ?_⟩
 ·exact (HS.out.set _ _ (fun x hx => by simp at hx; subst hx; simp)).set _ _ (fun x hx => by simp at hx; subst hx; simp; omega)
 ·exact (HB.out.setCell (by simp; omega) _).setCell (by simp) _
 ·have ho : w1.ownsRow w.heap.size 94 3 (.slice (some ⟨w.heap.size + 1 + 1 + 1, 0, none⟩) n n) n xs := by
   obtain ⟨q1, q2⟩ := HO.out
   refine ⟨q1, ?_⟩
   rcases q2 with q2 | ⟨g, cap, cur, e, hbg, r⟩
   ·exact .inl q2
   ·exact .inr ⟨g, cap, cur, e, by omega, r⟩
  exact owns_set (owns_set ho _ _ (by simp)) _ _ (by simp; omega)
theorem specRunOk (r f t : Int) (w : World) :
  Calls Tryz.prog 68 #[.agg #[.int .i64 r, .int .i64 f, .int .i64 t]] w fun e w' => e = .returned (.bool (runOkB r f t)) ∧ Below w.heap.size w w' := by
 by_cases h1 : 0 ≤ r
 ·by_cases h2 : r < 8
  ·by_cases h3 : 1 ≤ f
   ·by_cases h4 : f ≤ t
    ·by_cases h5 : t ≤ 1000000000
     ·have HE := hid (runOk_true ⟨h1, h2, h3, h4, h5⟩)
      go_enter Tryz.func68, Tryz.ntmps68
      go_wp2_with fail
      go_ret
      exact ⟨retB HE.out.symm, (Below.refl _ _).alloc (Nat.le_refl _) _⟩
     ·have HE := hid (runOk_false (r := r) (f := f) (t := t) (by omega))
      go_enter Tryz.func68, Tryz.ntmps68
      go_wp2_with fail
      go_ret
      exact ⟨retB HE.out.symm, (Below.refl _ _).alloc (Nat.le_refl _) _⟩
    ·have HE := hid (runOk_false (r := r) (f := f) (t := t) (by omega))
     go_enter Tryz.func68, Tryz.ntmps68
     go_wp2_with fail
     go_ret
     exact ⟨retB HE.out.symm, (Below.refl _ _).alloc (Nat.le_refl _) _⟩
   ·have HE := hid (runOk_false (r := r) (f := f) (t := t) (by omega))
    go_enter Tryz.func68, Tryz.ntmps68
    go_wp2_with fail
    go_ret
    exact ⟨retB HE.out.symm, (Below.refl _ _).alloc (Nat.le_refl _) _⟩
  ·have HE := hid (runOk_false (r := r) (f := f) (t := t) (by omega))
   go_enter Tryz.func68, Tryz.ntmps68
   go_wp2_with fail
   go_ret
   exact ⟨retB HE.out.symm, (Below.refl _ _).alloc (Nat.le_refl _) _⟩
 ·have HE := hid (runOk_false (r := r) (f := f) (t := t) (by omega))
  go_enter Tryz.func68, Tryz.ntmps68
  go_wp2_with fail
  go_ret
  exact ⟨retB HE.out.symm, (Below.refl _ _).alloc (Nat.le_refl _) _⟩
theorem repOk_yes (r : Int) (w : World) (h1 : 0 ≤ r) (h2 : r < 8) :
  Calls Tryz.prog 40 #[.int .i64 r] w fun e w' => e = .returned (.bool true) ∧ w' = w := by
 go_enter Tryz.func40, Tryz.ntmps40
 go_wp2_with fail
 go_ret
 exact ⟨rfl, rfl⟩
theorem repOk_no (r : Int) (w : World) (h : ¬ (0 ≤ r ∧ r < 8)) :
  Calls Tryz.prog 40 #[.int .i64 r] w fun e w' => e = .returned (.bool false) ∧ w' = w := by
 by_cases h1 : 0 ≤ r
 ·have h2 : decide (r < 8) = false := by simp; omega
  go_enter Tryz.func40, Tryz.ntmps40
  go_wp2_with fail
  go_ret
  exact ⟨rfl, rfl⟩
 ·go_enter Tryz.func40, Tryz.ntmps40
  go_wp2_with fail
  go_ret
  exact ⟨rfl, rfl⟩
theorem implRunOk (r f t : Int) (w : World) :
  Calls Tryz.prog 122 #[.agg #[.int .i64 r, .int .i64 f, .int .i64 t]] w fun e w' => e = .returned (.bool (runOkB r f t)) ∧ Below w.heap.size w w' := by
 by_cases h12 : 0 ≤ r ∧ r < 8
 ·obtain ⟨h1, h2⟩ := h12
  have HC := hid (repOk_yes r (w.alloc (.cells #[.int .i64 r, .int .i64 f, .int .i64 t] 94)) h1 h2)
  by_cases h3 : 1 ≤ f
  ·by_cases h4 : f ≤ t
   ·by_cases h5 : t ≤ 1000000000
    ·have HE := hid (runOk_true ⟨h1, h2, h3, h4, h5⟩)
     go_enter Tryz.func122, Tryz.ntmps122
     go_wp2_with fail
     refine HC.out.mono ?_
     rintro e w1 ⟨rfl, rfl⟩
     go_wp2_with fail
     go_ret
     exact ⟨retB HE.out.symm, (Below.refl _ _).alloc (Nat.le_refl _) _⟩
    ·have h5' : decide (t ≤ 1000000000) = false := by simp; omega
     have HE := hid (runOk_false (r := r) (f := f) (t := t) (by omega))
     go_enter Tryz.func122, Tryz.ntmps122
     go_wp2_with fail
     refine HC.out.mono ?_
     rintro e w1 ⟨rfl, rfl⟩
     go_wp2_with fail
     go_ret
     exact ⟨retB HE.out.symm, (Below.refl _ _).alloc (Nat.le_refl _) _⟩
   ·have HE := hid (runOk_false (r := r) (f := f) (t := t) (by omega))
    go_enter Tryz.func122, Tryz.ntmps122
    go_wp2_with fail
    refine HC.out.mono ?_
    rintro e w1 ⟨rfl, rfl⟩
    go_wp2_with fail
    go_ret
    exact ⟨retB HE.out.symm, (Below.refl _ _).alloc (Nat.le_refl _) _⟩
  ·have HE := hid (runOk_false (r := r) (f := f) (t := t) (by omega))
   go_enter Tryz.func122, Tryz.ntmps122
   go_wp2_with fail
   refine HC.out.mono ?_
   rintro e w1 ⟨rfl, rfl⟩
   go_wp2_with fail
   go_ret
   exact ⟨retB HE.out.symm, (Below.refl _ _).alloc (Nat.le_refl _) _⟩
 ·have HC := hid (repOk_no r (w.alloc (.cells #[.int .i64 r, .int .i64 f, .int .i64 t] 94)) h12)
  have HE := hid (runOk_false (r := r) (f := f) (t := t) (by omega))
  clear h12
  go_enter Tryz.func122, Tryz.ntmps122
  go_wp2_with fail
  refine HC.out.mono ?_
  rintro e w1 ⟨rfl, rfl⟩
  go_wp2_with fail
  go_ret
  exact ⟨retB HE.out.symm, (Below.refl _ _).alloc (Nat.le_refl _) _⟩
theorem apart_true {r t r' f' : Int} (h : r < r' ∨ (r = r' ∧ t + 1 < f')) : apartB r t r' f' = true := by unfold apartB; exact decide_eq_true h
theorem apart_false {r t r' f' : Int} (h : ¬ (r < r' ∨ (r = r' ∧ t + 1 < f'))) : apartB r t r' f' = false := by unfold apartB; exact decide_eq_false h
theorem below2 (w : World) (o o' : Obj) : Below w.heap.size w ((w.alloc o).alloc o') := ((Below.refl _ _).alloc (Nat.le_refl _) _).alloc (by simp) _
theorem specApart (r f t r' f' t' : Int) (w : World) (h0 : 0 ≤ t) (h1 : t ≤ 1000000000) :
  Calls Tryz.prog 69 #[.agg #[.int .i64 r, .int .i64 f, .int .i64 t], .agg #[.int .i64 r', .int .i64 f', .int .i64 t']] w fun e w' => e = .returned (.bool (apartB r t r' f')) ∧ Below w.heap.size w w' := by
 by_cases c1 : r < r'
 ·have HE := hid (apart_true (t := t) (f' := f') (.inl c1))
  go_enter Tryz.func69, Tryz.ntmps69
  go_wp2_with fail
  go_ret
  exact ⟨retB HE.out.symm, below2 _ _ _⟩
 ·by_cases c2 : r = r'
  ·subst c2
   by_cases c3 : t + 1 < f'
   ·have HE := hid (apart_true (r := r) (r' := r) (.inr ⟨rfl, c3⟩))
    go_enter Tryz.func69, Tryz.ntmps69
    go_wp2_with fail
    go_ret
    exact ⟨retB HE.out.symm, below2 _ _ _⟩
   ·have HE := hid (apart_false (r := r) (r' := r) (t := t) (f' := f') (by omega))
    go_enter Tryz.func69, Tryz.ntmps69
    go_wp2_with fail
    go_ret
    exact ⟨retB HE.out.symm, below2 _ _ _⟩
  ·have c3 : (r == r') = false := by simp; exact c2
   have HE := hid (apart_false (r := r) (r' := r') (t := t) (f' := f') (by omega))
   go_enter Tryz.func69, Tryz.ntmps69
   go_wp2_with fail
   go_ret
   exact ⟨retB HE.out.symm, below2 _ _ _⟩
theorem implFollows (r f t r' f' t' : Int) (w : World) (h0 : 0 ≤ t) (h1 : t ≤ 1000000000) :
  Calls Tryz.prog 123 #[.agg #[.int .i64 r', .int .i64 f', .int .i64 t'], .agg #[.int .i64 r, .int .i64 f, .int .i64 t]] w fun e w' => e = .returned (.bool (apartB r t r' f')) ∧ Below w.heap.size w w' := by
 by_cases c2 : r' = r
 ·subst c2
  by_cases c3 : t + 1 < f'
  ·have HE := hid (apart_true (r := r') (r' := r') (.inr ⟨rfl, c3⟩))
   go_enter Tryz.func123, Tryz.ntmps123
   go_wp2_with fail
   go_ret
   exact ⟨retB HE.out.symm, below2 _ _ _⟩
  ·have HE := hid (apart_false (r := r') (r' := r') (t := t) (f' := f') (by omega))
   go_enter Tryz.func123, Tryz.ntmps123
   go_wp2_with fail
   go_ret
   exact ⟨retB HE.out.symm, below2 _ _ _⟩
 ·have c3 : (r' != r) = true := by simp; exact c2
  by_cases c1 : r < r'
  ·have HE := hid (apart_true (t := t) (f' := f') (.inl c1))
   go_enter Tryz.func123, Tryz.ntmps123
   go_wp2_with fail
   go_ret
   exact ⟨retB HE.out.symm, below2 _ _ _⟩
  ·have HE := hid (apart_false (r := r) (r' := r') (t := t) (f' := f') (by omega))
   go_enter Tryz.func123, Tryz.ntmps123
   go_wp2_with fail
   go_ret
   exact ⟨retB HE.out.symm, below2 _ _ _⟩
theorem eqRun (r f t : Int) (w : World) :
  Calls Tryz.prog 85 #[.agg #[.int .i64 r, .int .i64 f, .int .i64 t], .agg #[.int .i64 r, .int .i64 f, .int .i64 t]] w fun e w' => e = .returned (.bool true) ∧ Below w.heap.size w w' := by
 go_enter Tryz.func85, Tryz.ntmps85
 go_wp2_with fail
 go_ret
 exact ⟨rfl, below2 _ _ _⟩
def okTo (R F T : Nat → Int) (k : Nat) : Prop := ∀ i, i < k → runOkB (R i) (F i) (T i) = true ∧ (0 < i → apartB (R (i - 1)) (T (i - 1)) (R i) (F i) = true)
def okToB (R F T : Nat → Int) : Nat → Bool
 | 0 => true
 | k + 1 => okToB R F T k && (runOkB (R k) (F k) (T k) && (k == 0 || apartB (R (k - 1)) (T (k - 1)) (R k) (F k)))
def ctxB (R F T : Nat → Int) (n : Nat) : Bool := okToB R F T n && decide (n ≤ 1000)
theorem okToB_iff {R F T : Nat → Int} : ∀ k : Nat, okToB R F T k = true ↔ okTo R F T k
 | 0 => ⟨fun _ i hi => by omega, fun _ => rfl⟩
 | k + 1 => by
  have ih := okToB_iff (R := R) (F := F) (T := T) k
  constructor
  ·intro h
   simp only [okToB, Bool.and_eq_true, Bool.or_eq_true, beq_iff_eq] at h
   intro i hi
   by_cases e : i = k
   ·subst e; exact ⟨h.2.1, fun h0 => by rcases h.2.2 with h' | h'; omega; exact h'⟩
   ·exact ih.1 h.1 i (by omega)
  ·intro h
   simp only [okToB, Bool.and_eq_true, Bool.or_eq_true, beq_iff_eq]
   refine ⟨ih.2 (fun i hi => h i (by omega)), (h k (by omega)).1, ?_⟩
   by_cases h0 : k = 0
   ·exact .inl h0
   ·exact .inr ((h k (by omega)).2 (by omega))
theorem ctxB_iff {R F T : Nat → Int} {n : Nat} : ctxB R F T n = true ↔ okTo R F T n ∧ n ≤ 1000 := by
 unfold ctxB
 rw [Bool.and_eq_true, okToB_iff, decide_eq_true_iff]
theorem ctxB_false {R F T : Nat → Int} {n : Nat} (h : ¬ (okTo R F T n ∧ n ≤ 1000)) : ctxB R F T n = false := by
 cases e : ctxB R F T n with
 | false => rfl
 | true => exact absurd (ctxB_iff.1 e) h
theorem okTo_succ {R F T : Nat → Int} {k : Nat} (h : okTo R F T k) (h1 : runOkB (R k) (F k) (T k) = true) (h2 : 0 < k → apartB (R (k - 1)) (T (k - 1)) (R k) (F k) = true) : okTo R F T (k + 1) := by
 intro i hi
 by_cases e : i = k
 ·subst e; exact ⟨h1, h2⟩
 ·exact h i (by omega)
theorem keepS {wr w1 w2 : World} (h1 : Below wr.heap.size wr w1) (b2 : Below w1.heap.size w1 w2) : Below wr.heap.size wr w2 := h1.trans (b2.mono h1.size)
theorem take1 {P : Program} {ops : Array Oper} {Q : Exit → Act → World → Prop} {md : Region.Mode} {S : World → Prop} {i : Nat} {d : Option Tmp} {v : Value} {fuel : Nat} {listed : Array Bool} {a : Act} {w : World}
  (hd : ops[i]?.map (fun o => o.dst) = some d) (hs : Region.noSelect ops = true) (hf : Region.free md ops listed i = true) (hr : (Region.ready md ops listed).contains i = true)
  (hQ : ∀ c a w, Q (.panic c) (a.put d v) w → Q (.panic c) a w) (hy : ∀ o, ops[i]? = some o → YieldsIf P ops S o v a) (hS : S w)
  (h : wpAnyH P md ops Q S fuel (listed.setIfInBounds i true) (a.put d v) w) : wpAnyH P md ops Q S (fuel + 1) listed a w := by
 obtain ⟨o, ho, rfl⟩ := Option.map_eq_some_iff.1 hd
 exact wpAnyH_take ho hs hf hr hQ (hy o ho) hS h
theorem gZa {α : Type} {l : List α} {i : Nat} : l.toArray[i]? = l[i]? := List.getElem?_toArray
theorem gZb {α : Type} {a : α} {l : List α} {i : Nat} : (a :: l)[i + 1]? = l[i]? := List.getElem?_cons_succ
theorem gZc {α : Type} {a : α} {l : List α} : (a :: l)[0]? = some a := List.getElem?_cons_zero
theorem gZd {α : Type} {a b : α} : (some a = some b) = (a = b) := Option.some.injEq a b
theorem sZa {α : Type} (l : List α) (i : Nat) (a : α) : l.toArray.setIfInBounds i a = (l.set i a).toArray := by simp
theorem sZb {α : Type} {a b : α} {l : List α} : (a :: l).set 0 b = b :: l := List.set_cons_zero
theorem sZc {α : Type} {a b : α} {l : List α} {i : Nat} : (a :: l).set (i + 1) b = a :: l.set i b := List.set_cons_succ
theorem tk {P : Program} {ops : Array Oper} {Q : Exit → Act → World → Prop} {md : Region.Mode} {S : World → Prop} (i : Nat) (d : Tmp) (v : Value) {fuel : Nat} {listed : Array Bool} {a : Act} {w : World}
  (hb : ((ops[i]?.map (fun o => o.dst) == some (some d)) && (Region.noSelect ops && (Region.free md ops listed i && (Region.ready md ops listed).contains i))) = true)
  (hQ : ∀ c a w, Q (.panic c) (a.put (some d) v) w → Q (.panic c) a w) (hy : ∀ o, ops[i]? = some o → YieldsIf P ops S o v a) (hS : S w)
  (h : wpAnyH P md ops Q S fuel (listed.setIfInBounds i true) (a.put (some d) v) w) : wpAnyH P md ops Q S (fuel + 1) listed a w := by
 rw [Bool.and_eq_true, Bool.and_eq_true, Bool.and_eq_true] at hb
 exact take1 (eq_of_beq hb.1) hb.2.1 hb.2.2.1 hb.2.2.2 hQ hy hS h
theorem call1 {P : Program} {ops : Array Oper} {Q : Exit → Act → World → Prop} {md : Region.Mode} {S : World → Prop} {i : Nat} {d : Option Tmp} {fuel : Nat} {listed : Array Bool} {a : Act} {w : World}
  (hd : ops[i]?.map (fun o => o.dst) = some d) (hr : Region.ready md ops listed = [i])
  (h : ∀ o, ops[i]? = some o → o.dst = d → ∀ K' : Act → World → Prop, Shut (∀ a w, S w → (S w → wpAnyH P md ops Q S fuel (listed.setIfInBounds i true) a w) → K' a w) → if Region.wanted o (yielded ops a.tmps) = true then Oper.wp P o a w K' Q else K' (a.put o.dst undef) w) :
  wpAnyH P md ops Q S (fuel + 1) listed a w := by
 obtain ⟨o, ho, hod⟩ := Option.map_eq_some_iff.1 hd
 exact wpAnyH_ready hr (by simp) (AllReadyH.cons ho (h o ho hod) AllReadyH.nil)
theorem wrapIn (x : Int) (h0 : -9223372036854775808 ≤ x) (h1 : x ≤ 9223372036854775807) : IntKind.i64.wrap x = x := by
 rw [IntKind.wrap_i64]; omega
theorem ok_false_run {R F T : Nat → Int} {n k : Nat} (hk : k < n) (h : runOkB (R k) (F k) (T k) = false) : ctxB R F T n = false := ctxB_false fun ⟨h1, _⟩ => by
 have := (h1 k hk).1; rw [h] at this; cases this
theorem ok_false_apart {R F T : Nat → Int} {n k : Nat} (hk : k < n) (h0 : 0 < k) (h : apartB (R (k - 1)) (T (k - 1)) (R k) (F k) = false) : ctxB R F T n = false := ctxB_false fun ⟨h1, _⟩ => by
 have := (h1 k hk).2 h0; rw [h] at this; cases this
theorem specOk (a : Option Addr) (n c : Nat) (R F T : Nat → Int) (w : World) (hn : n ≤ 1048576) (h : RSeg w a n R F T) :
  Calls Tryz.prog 43 #[.agg #[.slice a n c]] w fun e w' => e = .returned (.bool (ctxB R F T n)) ∧ Below w.heap.size w w' := by
 rcases h with h | ⟨b, off, rfl, hb, hc⟩
 ·subst h
  have HF : Hid (ctxB R F T 0 = true) := ctxB_iff.2 ⟨fun i hi => by omega, by omega⟩
  go_enter Tryz.func43, Tryz.ntmps43
  go_wp2_with fail
  refine wp_loop_rounds 1 ?_; rw [rounds_succ]; go_wp2_with fail
  go_ret
  exact ⟨retB HF.out.symm, (Below.refl _ _).alloc (Nat.le_refl _) _⟩
 ·go_enter Tryz.func43, Tryz.ntmps43
  go_wp2_with fail
  go_loopw [3] (fun i wr => ∃ k : Nat, k ≤ n ∧ i = .int .i64 k ∧ okTo R F T k ∧ wr.cell? ⟨w.heap.size, 0, none⟩ = some (.slice (some ⟨b, off, none⟩) n c) ∧ Below w.heap.size w wr ∧ w.heap.size < wr.heap.size) (fun i _ => n - (intOf i).toNat)
  case atStart => exact ⟨0, Nat.zero_le _, rfl, fun i hi => by omega, by simp, (Below.refl _ _).alloc (Nat.le_refl _) _, by simp⟩
  case round =>
   obtain ⟨k, hk, rfl, hok, hbox, hbel, hsz⟩ := hrel
   have hbw := Nat.lt_of_lt_of_le hb hbel.size
   by_cases hlt : k < n
   ·have hck : wr.cell? ⟨b, off + k * 3, none⟩ = some (.int .i64 (R k)) := (hbel.cell (p := ⟨b, _, none⟩) hb).trans (hc k hlt).1
    have hck1 : wr.cell? ⟨b, off + k * 3 + 1, none⟩ = some (.int .i64 (F k)) := (hbel.cell (p := ⟨b, _, none⟩) hb).trans (hc k hlt).2.1
    have hck2 : wr.cell? ⟨b, off + k * 3 + 2, none⟩ = some (.int .i64 (T k)) := (hbel.cell (p := ⟨b, _, none⟩) hb).trans (hc k hlt).2.2
    have hk0 : (0 : Int) ≤ (k : Int) := Int.natCast_nonneg _
    have hk1 : (k : Int) < (n : Int) := by omega
    have HB := hid hbel
    have HO := hid hok
    cases hr : runOkB (R k) (F k) (T k) with
    | false =>
     have HR := hid hr
     clear hr hc hbel hok
     go_wp2_with fail
     refine wp_region_held_drew (S := fun w' => Below wr.heap.size wr w' ∧ w'.cell? ⟨w.heap.size, 0, none⟩ = some (.slice (some ⟨b, off, none⟩) n c) ∧ w'.cell? ⟨b, off + k * 3, none⟩ = some (.int .i64 (R k)) ∧ w'.cell? ⟨b, off + k * 3 + 1, none⟩ = some (.int .i64 (F k)) ∧ w'.cell? ⟨b, off + k * 3 + 2, none⟩ = some (.int .i64 (T k))) (by kernel_rfl) ⟨(Below.refl _ _).drew, hbox, hck, hck1, hck2⟩ (fun hHeld => ?_)
     refine tk 0 11 ?_ (by kernel_rfl) (fun _ _ _ h => h) ?_ hHeld (tk 1 12 ?_ (by kernel_rfl) (fun _ _ _ h => h) ?_ hHeld (tk 2 13 ?_ (by kernel_rfl) (fun _ _ _ h => h) ?_ hHeld (tk 3 14 ?_ (by kernel_rfl) (fun _ _ _ h => h) ?_ hHeld (tk 4 15 ?_ (by kernel_rfl) (fun _ _ _ h => h) ?_ hHeld ?_))))
     iterate 5 (rotate_left; focus (intro o ho; simp only [gZa, gZb, gZc, gZd] at ho; subst ho; refine Or.inl ⟨by rfl, ?_⟩; intro w hSw; (try dsimp only at hSw); (try simp only [Act.put, sZa, sZb, sZc]); go_simp; try with_reducible rfl))
     try simp only [Act.put, sZa, sZb, sZc]
     refine call1 (i := 5) (d := some 16) (by kernel_rfl) (by kernel_rfl) ?_
     intro o ho hod K hK; simp only [gZa, gZb, gZc, gZd] at ho; subst ho
     go_simp
     refine (specRunOk _ _ _ _).mono ?_
     rintro e w2 ⟨rfl, b2⟩
     rw [HR.out]
     have hB := keepS hHeld.1 b2
     refine hK.out _ _ ⟨hB, (hB.cell (p := ⟨w.heap.size, 0, none⟩) hsz).trans hbox, (hB.cell (p := ⟨b, _, none⟩) hbw).trans hck, (hB.cell (p := ⟨b, _, none⟩) hbw).trans hck1, (hB.cell (p := ⟨b, _, none⟩) hbw).trans hck2⟩ (fun hHeld => ?_)
     clear hK K
     try simp only [Act.put, sZa, sZb, sZc]
     refine tk 6 17 ?_ (by kernel_rfl) (fun _ _ _ h => h) ?_ hHeld (tk 7 18 ?_ (by kernel_rfl) (fun _ _ _ h => h) ?_ hHeld ?_)
     iterate 2 (rotate_left; focus (intro o ho; simp only [gZa, gZb, gZc, gZd] at ho; subst ho; refine Or.inl ⟨by rfl, ?_⟩; intro w hSw; (try dsimp only at hSw); (try simp only [Act.put, sZa, sZb, sZc]); go_simp; try with_reducible rfl))
     try simp only [Act.put, sZa, sZb, sZc]
     refine tk 8 19 undef (by kernel_rfl) (fun _ _ _ h => h) ?_ hHeld (tk 9 20 undef (by kernel_rfl) (fun _ _ _ h => h) ?_ hHeld (tk 10 21 undef (by kernel_rfl) (fun _ _ _ h => h) ?_ hHeld (tk 11 22 undef (by kernel_rfl) (fun _ _ _ h => h) ?_ hHeld (tk 12 23 undef (by kernel_rfl) (fun _ _ _ h => h) ?_ hHeld ?_))))
     iterate 5 (focus (intro o ho; simp only [gZa, gZb, gZc, gZd] at ho; subst ho; (try simp only [Act.put, sZa, sZb, sZc]); exact Or.inr ⟨by rfl, rfl⟩))
     try simp only [Act.put, sZa, sZb, sZc]
     refine tk 13 24 undef (by kernel_rfl) (fun _ _ _ h => h) ?_ hHeld (tk 14 25 undef (by kernel_rfl) (fun _ _ _ h => h) ?_ hHeld (tk 15 26 undef (by kernel_rfl) (fun _ _ _ h => h) ?_ hHeld (tk 16 27 undef (by kernel_rfl) (fun _ _ _ h => h) ?_ hHeld (tk 17 28 undef (by kernel_rfl) (fun _ _ _ h => h) ?_ hHeld ?_))))
     iterate 5 (focus (intro o ho; simp only [gZa, gZb, gZc, gZd] at ho; subst ho; (try simp only [Act.put, sZa, sZb, sZc]); exact Or.inr ⟨by rfl, rfl⟩))
     try simp only [Act.put, sZa, sZb, sZc]
     refine tk 18 29 undef (by kernel_rfl) (fun _ _ _ h => h) ?_ hHeld (tk 19 30 undef (by kernel_rfl) (fun _ _ _ h => h) ?_ hHeld (tk 20 31 undef (by kernel_rfl) (fun _ _ _ h => h) ?_ hHeld (tk 21 32 undef (by kernel_rfl) (fun _ _ _ h => h) ?_ hHeld (tk 22 33 undef (by kernel_rfl) (fun _ _ _ h => h) ?_ hHeld ?_))))
     iterate 5 (focus (intro o ho; simp only [gZa, gZb, gZc, gZd] at ho; subst ho; (try simp only [Act.put, sZa, sZb, sZc]); exact Or.inr ⟨by rfl, rfl⟩))
     try simp only [Act.put, sZa, sZb, sZc]
     refine tk 23 34 undef (by kernel_rfl) (fun _ _ _ h => h) ?_ hHeld (tk 24 35 undef (by kernel_rfl) (fun _ _ _ h => h) ?_ hHeld ?_)
     iterate 2 (focus (intro o ho; simp only [gZa, gZb, gZc, gZd] at ho; subst ho; (try simp only [Act.put, sZa, sZb, sZc]); exact Or.inr ⟨by rfl, rfl⟩))
     try simp only [Act.put, sZa, sZb, sZc]
     refine tk 25 36 ?_ (by kernel_rfl) (fun _ _ _ h => h) ?_ hHeld ?_
     rotate_left
     ·(intro o ho; simp only [gZa, gZb, gZc, gZd] at ho; subst ho; refine Or.inl ⟨by rfl, ?_⟩; intro w hSw; (try dsimp only at hSw); go_simp; try with_reducible rfl)
     try simp only [Act.put, sZa, sZb, sZc]
     refine wpAnyH_done (by kernel_rfl) ?_ _
     have HZ := hid (keepS (wr := wr) (w1 := wr) (Below.refl _ _) hB)
     clear hHeld hB b2
     go_wp2_with fail
     go_ret
     exact ⟨retB (ok_false_run hlt HR.out).symm, HB.out.trans (HZ.out.mono (by omega))⟩
    | true =>
     have HR := hid hr
     clear hr
     by_cases hk00 : k = 0
     ·have hg : decide (0 < k) = false := by simp; omega
      have HK := hid hk00
      clear hc hbel hok hk00
      go_wp2_with fail
      refine wp_region_held_drew (S := fun w' => Below wr.heap.size wr w' ∧ w'.cell? ⟨w.heap.size, 0, none⟩ = some (.slice (some ⟨b, off, none⟩) n c) ∧ w'.cell? ⟨b, off + k * 3, none⟩ = some (.int .i64 (R k)) ∧ w'.cell? ⟨b, off + k * 3 + 1, none⟩ = some (.int .i64 (F k)) ∧ w'.cell? ⟨b, off + k * 3 + 2, none⟩ = some (.int .i64 (T k))) (by kernel_rfl) ⟨(Below.refl _ _).drew, hbox, hck, hck1, hck2⟩ (fun hHeld => ?_)
      refine tk 0 11 ?_ (by kernel_rfl) (fun _ _ _ h => h) ?_ hHeld (tk 1 12 ?_ (by kernel_rfl) (fun _ _ _ h => h) ?_ hHeld (tk 2 13 ?_ (by kernel_rfl) (fun _ _ _ h => h) ?_ hHeld (tk 3 14 ?_ (by kernel_rfl) (fun _ _ _ h => h) ?_ hHeld (tk 4 15 ?_ (by kernel_rfl) (fun _ _ _ h => h) ?_ hHeld ?_))))
      iterate 5 (rotate_left; focus (intro o ho; simp only [gZa, gZb, gZc, gZd] at ho; subst ho; refine Or.inl ⟨by rfl, ?_⟩; intro w hSw; (try dsimp only at hSw); (try simp only [Act.put, sZa, sZb, sZc]); go_simp; try with_reducible rfl))
      try simp only [Act.put, sZa, sZb, sZc]
      refine call1 (i := 5) (d := some 16) (by kernel_rfl) (by kernel_rfl) ?_
      intro o ho hod K hK; simp only [gZa, gZb, gZc, gZd] at ho; subst ho
      go_simp
      refine (specRunOk _ _ _ _).mono ?_
      rintro e w2 ⟨rfl, b2⟩
      rw [HR.out]
      have hB := keepS hHeld.1 b2
      refine hK.out _ _ ⟨hB, (hB.cell (p := ⟨w.heap.size, 0, none⟩) hsz).trans hbox, (hB.cell (p := ⟨b, _, none⟩) hbw).trans hck, (hB.cell (p := ⟨b, _, none⟩) hbw).trans hck1, (hB.cell (p := ⟨b, _, none⟩) hbw).trans hck2⟩ (fun hHeld => ?_)
      clear hK K
      try simp only [Act.put, sZa, sZb, sZc]
      refine tk 6 17 ?_ (by kernel_rfl) (fun _ _ _ h => h) ?_ hHeld (tk 7 18 ?_ (by kernel_rfl) (fun _ _ _ h => h) ?_ hHeld (tk 8 19 ?_ (by kernel_rfl) (fun _ _ _ h => h) ?_ hHeld (tk 9 20 ?_ (by kernel_rfl) (fun _ _ _ h => h) ?_ hHeld (tk 10 21 ?_ (by kernel_rfl) (fun _ _ _ h => h) ?_ hHeld ?_))))
      iterate 5 (rotate_left; focus (intro o ho; simp only [gZa, gZb, gZc, gZd] at ho; subst ho; refine Or.inl ⟨by rfl, ?_⟩; intro w hSw; (try dsimp only at hSw); (try simp only [Act.put, sZa, sZb, sZc]); go_simp; try with_reducible rfl))
      try simp only [Act.put, sZa, sZb, sZc]
      refine tk 11 22 undef (by kernel_rfl) (fun _ _ _ h => h) ?_ hHeld (tk 12 23 undef (by kernel_rfl) (fun _ _ _ h => h) ?_ hHeld (tk 13 24 undef (by kernel_rfl) (fun _ _ _ h => h) ?_ hHeld (tk 14 25 undef (by kernel_rfl) (fun _ _ _ h => h) ?_ hHeld (tk 15 26 undef (by kernel_rfl) (fun _ _ _ h => h) ?_ hHeld ?_))))
      iterate 5 (focus (intro o ho; simp only [gZa, gZb, gZc, gZd] at ho; subst ho; (try simp only [Act.put, sZa, sZb, sZc]); exact Or.inr ⟨by rfl, rfl⟩))
      try simp only [Act.put, sZa, sZb, sZc]
      refine tk 16 27 undef (by kernel_rfl) (fun _ _ _ h => h) ?_ hHeld (tk 17 28 undef (by kernel_rfl) (fun _ _ _ h => h) ?_ hHeld (tk 18 29 undef (by kernel_rfl) (fun _ _ _ h => h) ?_ hHeld (tk 19 30 undef (by kernel_rfl) (fun _ _ _ h => h) ?_ hHeld (tk 20 31 undef (by kernel_rfl) (fun _ _ _ h => h) ?_ hHeld ?_))))
      iterate 5 (focus (intro o ho; simp only [gZa, gZb, gZc, gZd] at ho; subst ho; (try simp only [Act.put, sZa, sZb, sZc]); exact Or.inr ⟨by rfl, rfl⟩))
      try simp only [Act.put, sZa, sZb, sZc]
      refine tk 21 32 undef (by kernel_rfl) (fun _ _ _ h => h) ?_ hHeld (tk 22 33 undef (by kernel_rfl) (fun _ _ _ h => h) ?_ hHeld (tk 23 34 undef (by kernel_rfl) (fun _ _ _ h => h) ?_ hHeld ?_))
      iterate 3 (focus (intro o ho; simp only [gZa, gZb, gZc, gZd] at ho; subst ho; (try simp only [Act.put, sZa, sZb, sZc]); exact Or.inr ⟨by rfl, rfl⟩))
      try simp only [Act.put, sZa, sZb, sZc]
      refine tk 24 35 ?_ (by kernel_rfl) (fun _ _ _ h => h) ?_ hHeld (tk 25 36 ?_ (by kernel_rfl) (fun _ _ _ h => h) ?_ hHeld ?_)
      iterate 2 (rotate_left; focus (intro o ho; simp only [gZa, gZb, gZc, gZd] at ho; subst ho; refine Or.inl ⟨by rfl, ?_⟩; intro w hSw; (try dsimp only at hSw); (try simp only [Act.put, sZa, sZb, sZc]); go_simp; try with_reducible rfl))
      try simp only [Act.put, sZa, sZb, sZc]
      refine wpAnyH_done (by kernel_rfl) ?_ _
      have HX := hid hHeld.2.1
      have HZ := hid hB
      clear hHeld hB b2
      go_wp2_with fail
      go_roundw
      case rel => exact ⟨k + 1, hlt, by go_num, okTo_succ HO.out HR.out (fun h => by have := HK.out; omega), HX.out, HB.out.trans (HZ.out.mono (by omega)), by have := HZ.out.size; omega⟩
      case measure => simp [intOf]; omega
     ·have hg : decide (0 < k) = true := by simp; omega
      have hcp := (hbel.cell (p := ⟨b, off + (k - 1) * 3, none⟩) hb).trans (hc (k - 1) (by omega)).1
      have hcp1 := (hbel.cell (p := ⟨b, off + (k - 1) * 3 + 1, none⟩) hb).trans (hc (k - 1) (by omega)).2.1
      have hcp2 := (hbel.cell (p := ⟨b, off + (k - 1) * 3 + 2, none⟩) hb).trans (hc (k - 1) (by omega)).2.2
      have e0 : IntKind.i64.wrap ((k : Int) - 1) = (k : Int) - 1 := wrapIn _ (by omega) (by omega)
      have e1 : ((k : Int) - 1).toNat = k - 1 := by omega
      have e2 : (1 : Int) ≤ (k : Int) := by omega
      have e3 : (k : Int) - 1 < (n : Int) := by omega
      have hpo := runOk_iff.1 (hok (k - 1) (by omega)).1
      have HP := hid hpo
      have HK := hid hk00
      clear hc hbel hok hk00 hpo
      go_wp2_with fail
      refine wp_region_held_drew (S := fun w' => Below wr.heap.size wr w' ∧ w'.cell? ⟨w.heap.size, 0, none⟩ = some (.slice (some ⟨b, off, none⟩) n c) ∧ w'.cell? ⟨b, off + k * 3, none⟩ = some (.int .i64 (R k)) ∧ w'.cell? ⟨b, off + k * 3 + 1, none⟩ = some (.int .i64 (F k)) ∧ w'.cell? ⟨b, off + k * 3 + 2, none⟩ = some (.int .i64 (T k)) ∧ w'.cell? ⟨b, off + (k - 1) * 3, none⟩ = some (.int .i64 (R (k - 1))) ∧ w'.cell? ⟨b, off + (k - 1) * 3 + 1, none⟩ = some (.int .i64 (F (k - 1))) ∧ w'.cell? ⟨b, off + (k - 1) * 3 + 2, none⟩ = some (.int .i64 (T (k - 1)))) (by kernel_rfl) ⟨(Below.refl _ _).drew, hbox, hck, hck1, hck2, hcp, hcp1, hcp2⟩ (fun hHeld => ?_)
      refine tk 0 11 ?_ (by kernel_rfl) (fun _ _ _ h => h) ?_ hHeld (tk 1 12 ?_ (by kernel_rfl) (fun _ _ _ h => h) ?_ hHeld (tk 2 13 ?_ (by kernel_rfl) (fun _ _ _ h => h) ?_ hHeld (tk 3 14 ?_ (by kernel_rfl) (fun _ _ _ h => h) ?_ hHeld (tk 4 15 ?_ (by kernel_rfl) (fun _ _ _ h => h) ?_ hHeld ?_))))
      iterate 5 (rotate_left; focus (intro o ho; simp only [gZa, gZb, gZc, gZd] at ho; subst ho; refine Or.inl ⟨by rfl, ?_⟩; intro w hSw; (try dsimp only at hSw); (try simp only [Act.put, sZa, sZb, sZc]); go_simp; try with_reducible rfl))
      try simp only [Act.put, sZa, sZb, sZc]
      refine call1 (i := 5) (d := some 16) (by kernel_rfl) (by kernel_rfl) ?_
      intro o ho hod K hK; simp only [gZa, gZb, gZc, gZd] at ho; subst ho
      go_simp
      refine (specRunOk _ _ _ _).mono ?_
      rintro e w2 ⟨rfl, b2⟩
      rw [HR.out]
      have hB := keepS hHeld.1 b2
      refine hK.out _ _ ⟨hB, (hB.cell (p := ⟨w.heap.size, 0, none⟩) hsz).trans hbox, (hB.cell (p := ⟨b, _, none⟩) hbw).trans hck, (hB.cell (p := ⟨b, _, none⟩) hbw).trans hck1, (hB.cell (p := ⟨b, _, none⟩) hbw).trans hck2, (hB.cell (p := ⟨b, _, none⟩) hbw).trans hcp, (hB.cell (p := ⟨b, _, none⟩) hbw).trans hcp1, (hB.cell (p := ⟨b, _, none⟩) hbw).trans hcp2⟩ (fun hHeld => ?_)
      clear hK K
      try simp only [Act.put, sZa, sZb, sZc]
      refine tk 6 17 ?_ (by kernel_rfl) (fun _ _ _ h => h) ?_ hHeld (tk 7 18 ?_ (by kernel_rfl) (fun _ _ _ h => h) ?_ hHeld (tk 8 19 ?_ (by kernel_rfl) (fun _ _ _ h => h) ?_ hHeld (tk 9 20 ?_ (by kernel_rfl) (fun _ _ _ h => h) ?_ hHeld (tk 10 21 ?_ (by kernel_rfl) (fun _ _ _ h => h) ?_ hHeld ?_))))
      iterate 5 (rotate_left; focus (intro o ho; simp only [gZa, gZb, gZc, gZd] at ho; subst ho; refine Or.inl ⟨by rfl, ?_⟩; intro w hSw; (try dsimp only at hSw); (try simp only [Act.put, sZa, sZb, sZc]); go_simp; try with_reducible rfl))
      try simp only [Act.put, sZa, sZb, sZc]
      refine tk 11 22 ?_ (by kernel_rfl) (fun _ _ _ h => h) ?_ hHeld (tk 12 23 ?_ (by kernel_rfl) (fun _ _ _ h => h) ?_ hHeld (tk 13 24 ?_ (by kernel_rfl) (fun _ _ _ h => h) ?_ hHeld (tk 14 25 ?_ (by kernel_rfl) (fun _ _ _ h => h) ?_ hHeld (tk 15 26 ?_ (by kernel_rfl) (fun _ _ _ h => h) ?_ hHeld ?_))))
      iterate 5 (rotate_left; focus (intro o ho; simp only [gZa, gZb, gZc, gZd] at ho; subst ho; refine Or.inl ⟨by rfl, ?_⟩; intro w hSw; (try dsimp only at hSw); (try simp only [Act.put, sZa, sZb, sZc]); go_simp; try with_reducible rfl))
      try simp only [Act.put, sZa, sZb, sZc]
      refine tk 16 27 ?_ (by kernel_rfl) (fun _ _ _ h => h) ?_ hHeld (tk 17 28 ?_ (by kernel_rfl) (fun _ _ _ h => h) ?_ hHeld (tk 18 29 ?_ (by kernel_rfl) (fun _ _ _ h => h) ?_ hHeld (tk 19 30 ?_ (by kernel_rfl) (fun _ _ _ h => h) ?_ hHeld (tk 20 31 ?_ (by kernel_rfl) (fun _ _ _ h => h) ?_ hHeld ?_))))
      iterate 5 (rotate_left; focus (intro o ho; simp only [gZa, gZb, gZc, gZd] at ho; subst ho; refine Or.inl ⟨by rfl, ?_⟩; intro w hSw; (try dsimp only at hSw); (try simp only [Act.put, sZa, sZb, sZc]); go_simp; try with_reducible rfl))
      try simp only [Act.put, sZa, sZb, sZc]
      refine tk 21 32 ?_ (by kernel_rfl) (fun _ _ _ h => h) ?_ hHeld ?_
      rotate_left
      ·(intro o ho; simp only [gZa, gZb, gZc, gZd] at ho; subst ho; refine Or.inl ⟨by rfl, ?_⟩; intro w hSw; (try dsimp only at hSw); go_simp; try with_reducible rfl)
      try simp only [Act.put, sZa, sZb, sZc]
      refine call1 (i := 22) (d := some 33) (by kernel_rfl) (by kernel_rfl) ?_
      intro o ho hod K hK; simp only [gZa, gZb, gZc, gZd] at ho; subst ho
      go_simp
      refine (specApart (R (k - 1)) (F (k - 1)) (T (k - 1)) (R k) (F k) (T k) _ (by have := HP.out; omega) (by have := HP.out; omega)).mono ?_
      rintro e w3 ⟨rfl, b3⟩
      have hB3 := keepS hB b3
      cases ha : apartB (R (k - 1)) (T (k - 1)) (R k) (F k) with
      | false =>
       have HA := hid ha
       clear ha
       refine hK.out _ _ ⟨hB3, (hB3.cell (p := ⟨w.heap.size, 0, none⟩) hsz).trans hbox, (hB3.cell (p := ⟨b, _, none⟩) hbw).trans hck, (hB3.cell (p := ⟨b, _, none⟩) hbw).trans hck1, (hB3.cell (p := ⟨b, _, none⟩) hbw).trans hck2, (hB3.cell (p := ⟨b, _, none⟩) hbw).trans hcp, (hB3.cell (p := ⟨b, _, none⟩) hbw).trans hcp1, (hB3.cell (p := ⟨b, _, none⟩) hbw).trans hcp2⟩ (fun hHeld => ?_)
       clear hK K
       try simp only [Act.put, sZa, sZb, sZc]
       refine tk 23 34 ?_ (by kernel_rfl) (fun _ _ _ h => h) ?_ hHeld (tk 24 35 ?_ (by kernel_rfl) (fun _ _ _ h => h) ?_ hHeld (tk 25 36 ?_ (by kernel_rfl) (fun _ _ _ h => h) ?_ hHeld ?_))
       iterate 3 (rotate_left; focus (intro o ho; simp only [gZa, gZb, gZc, gZd] at ho; subst ho; refine Or.inl ⟨by rfl, ?_⟩; intro w hSw; (try dsimp only at hSw); (try simp only [Act.put, sZa, sZb, sZc]); go_simp; try with_reducible rfl))
       try simp only [Act.put, sZa, sZb, sZc]
       refine wpAnyH_done (by kernel_rfl) ?_ _
       have HZ := hid hB3
       clear hHeld hB b2 b3 hB3
       go_wp2_with fail
       go_ret
       exact ⟨retB (ok_false_apart hlt (by have := HK.out; omega) HA.out).symm, HB.out.trans (HZ.out.mono (by omega))⟩
      | true =>
       have HA := hid ha
       clear ha
       refine hK.out _ _ ⟨hB3, (hB3.cell (p := ⟨w.heap.size, 0, none⟩) hsz).trans hbox, (hB3.cell (p := ⟨b, _, none⟩) hbw).trans hck, (hB3.cell (p := ⟨b, _, none⟩) hbw).trans hck1, (hB3.cell (p := ⟨b, _, none⟩) hbw).trans hck2, (hB3.cell (p := ⟨b, _, none⟩) hbw).trans hcp, (hB3.cell (p := ⟨b, _, none⟩) hbw).trans hcp1, (hB3.cell (p := ⟨b, _, none⟩) hbw).trans hcp2⟩ (fun hHeld => ?_)
       clear hK K
       try simp only [Act.put, sZa, sZb, sZc]
       refine tk 23 34 ?_ (by kernel_rfl) (fun _ _ _ h => h) ?_ hHeld (tk 24 35 ?_ (by kernel_rfl) (fun _ _ _ h => h) ?_ hHeld (tk 25 36 ?_ (by kernel_rfl) (fun _ _ _ h => h) ?_ hHeld ?_))
       iterate 3 (rotate_left; focus (intro o ho; simp only [gZa, gZb, gZc, gZd] at ho; subst ho; refine Or.inl ⟨by rfl, ?_⟩; intro w hSw; (try dsimp only at hSw); (try simp only [Act.put, sZa, sZb, sZc]); go_simp; try with_reducible rfl))
       try simp only [Act.put, sZa, sZb, sZc]
       refine wpAnyH_done (by kernel_rfl) ?_ _
       have HX := hid hHeld.2.1
       have HZ := hid hB3
       clear hHeld hB b2 b3 hB3 e0 e1 e2 e3
       go_wp2_with fail
       go_roundw
       case rel => exact ⟨k + 1, hlt, by go_num, okTo_succ HO.out HR.out (fun _ => HA.out), HX.out, HB.out.trans (HZ.out.mono (by omega)), by have := HZ.out.size; omega⟩
       case measure => simp [intOf]; omega
   ·obtain rfl : k = n := by omega
    have HB := hid hbel
    by_cases hm : k ≤ 1000
    ·have HF : Hid (ctxB R F T k = true) := ctxB_iff.2 ⟨hok, hm⟩
     have hd : decide ((k : Int) ≤ 1000) = true := by simp; omega
     clear hc hbel hok
     go_wp2_with fail
     go_ret
     exact ⟨retB HF.out.symm, HB.out⟩
    ·have HF : Hid (ctxB R F T k = false) := ctxB_false fun h => hm h.2
     have hd : decide ((k : Int) ≤ 1000) = false := by simp; omega
     clear hc hbel hok
     go_wp2_with fail
     go_ret
     exact ⟨retB HF.out.symm, HB.out⟩
end Go.Proofs.YtcbcabhjododoaaGreat
