import Derived.Test.YtdenbicnckkdfaaGreatRows
import Derived.WalkKit
import Derived.ProofKit
import Derived.OpenShut
import Derived.ShutString
import Derived.ChangeOld
import Derived.Below
import Derived.WalkLawsBesides
import Derived.WalkSpells
import Derived.Outline
import Derived.Deep.RegionHeld3
namespace Go.Proofs.YtdenbicnckkdfaaGreat
open Go.ChangeShapes Go.WideShapes Go.ChangeAt Go.RowKit
set_option linter.unusedVariables false

theorem hid {p : Prop} (h : p) : Hid p := h

def I64 (f : Nat → Int) : Prop := ∀ i, -9223372036854775808 ≤ f i ∧ f i ≤ 9223372036854775807

def RSeg (w : World) (a : Option Addr) (n : Nat) (R F T : Nat → Int) : Prop :=
  n = 0 ∨ ∃ b off, a = some ⟨b, off, none⟩ ∧ b < w.heap.size ∧ ∀ i, i < n → w.cell? ⟨b, off + i * 3, none⟩ = some (.int .i64 (R i)) ∧ w.cell? ⟨b, off + i * 3 + 1, none⟩ = some (.int .i64 (F i)) ∧ w.cell? ⟨b, off + i * 3 + 2, none⟩ = some (.int .i64 (T i))

theorem RSeg.kept {w w1 : World} {B : Nat} {a : Option Addr} {n : Nat} {R F T : Nat → Int} (h : RSeg w a n R F T) (hb : Below B w w1) (hc : ∀ x, a = some x → x.block < B) : RSeg w1 a n R F T := by
  rcases h with h | ⟨b, off, rfl, hlt, hcell⟩
  · exact .inl h
  · have hB : b < B := hc ⟨b, off, none⟩ rfl
    refine .inr ⟨b, off, rfl, Nat.lt_of_lt_of_le hlt hb.size, fun i hi => ?_⟩
    obtain ⟨h1, h2, h3⟩ := hcell i hi
    exact ⟨(hb.cell (p := ⟨b, _, none⟩) hB).trans h1, (hb.cell (p := ⟨b, _, none⟩) hB).trans h2, (hb.cell (p := ⟨b, _, none⟩) hB).trans h3⟩

theorem RSeg.below {w w1 : World} {a : Option Addr} {n : Nat} {R F T : Nat → Int} (h : RSeg w a n R F T) (hb : Below w.heap.size w w1) : RSeg w1 a n R F T := by
  rcases h with h | ⟨b, off, rfl, hlt, hcell⟩
  · exact .inl h
  · exact RSeg.kept (.inr ⟨b, off, rfl, hlt, hcell⟩) hb (fun x hx => by simp at hx; subst hx; exact hlt)

theorem RSeg.same {w w1 : World} {a : Option Addr} {n : Nat} {R F T : Nat → Int} (h : RSeg w a n R F T) (hs : w.heap.size ≤ w1.heap.size) (hc : ∀ x, a = some x → w1.heap[x.block]? = w.heap[x.block]?) : RSeg w1 a n R F T := by
  rcases h with h | ⟨b, off, rfl, hlt, hcell⟩
  · exact .inl h
  · have hB : w1.heap[b]? = w.heap[b]? := hc ⟨b, off, none⟩ rfl
    have hC : ∀ o, w1.cell? ⟨b, o, none⟩ = w.cell? ⟨b, o, none⟩ := fun o => World.cell?_of_block (w := w) (w' := w1) (a := ⟨b, o, none⟩) hB
    refine .inr ⟨b, off, rfl, Nat.lt_of_lt_of_le hlt hs, fun i hi => ?_⟩
    obtain ⟨h1, h2, h3⟩ := hcell i hi
    exact ⟨(hC _).trans h1, (hC _).trans h2, (hC _).trans h3⟩

theorem RSeg.set {w : World} {a : Option Addr} {n : Nat} {R F T : Nat → Int} (h : RSeg w a n R F T) (p : Addr) (u : Value) (hp : ∀ x, a = some x → x.block ≠ p.block) : RSeg (w.setCell p u) a n R F T :=
  h.same (by simp [World.setCell]) (fun x hx => Below.heap_setCell _ _ _ _ (hp x hx))

def runOkB (r f t : Int) : Bool := decide (0 ≤ r ∧ r < 8 ∧ 1 ≤ f ∧ f ≤ t ∧ t ≤ 1000000000)
def apartB (r t r' f' : Int) : Bool := decide (r < r' ∨ (r = r' ∧ t + 1 < f'))

theorem runOk_true {r f t : Int} (h : 0 ≤ r ∧ r < 8 ∧ 1 ≤ f ∧ f ≤ t ∧ t ≤ 1000000000) : runOkB r f t = true := by unfold runOkB; exact decide_eq_true h
theorem runOk_false {r f t : Int} (h : ¬ (0 ≤ r ∧ r < 8 ∧ 1 ≤ f ∧ f ≤ t ∧ t ≤ 1000000000)) : runOkB r f t = false := by unfold runOkB; exact decide_eq_false h
theorem runOk_iff {r f t : Int} : runOkB r f t = true ↔ (0 ≤ r ∧ r < 8 ∧ 1 ≤ f ∧ f ≤ t ∧ t ≤ 1000000000) := by unfold runOkB; simp
theorem retB {a b : Bool} (h : a = b) : Ending.returned (.bool a) = .returned (.bool b) := by rw [h]

def szLeft (l : Int) (n : Nat) : Int := if l < n then -1 else l - n
theorem ret_int {k : IntKind} {a b : Int} (h : a = b) : Ending.returned (.int k a) = .returned (.int k b) := by rw [h]

set_option maxHeartbeats 400000 in
theorem szRunS (a : Option Addr) (n c : Nat) (l : Int) (w : World) (hn : n ≤ 9223372036854775807) (hl : 0 ≤ l) (hl' : l ≤ 1048576) :
    Calls Tryz.prog 56 #[.slice a n c, .int .i64 l] w fun e w' => e = .returned (.int .i64 (szLeft l n)) ∧ w' = w := by
  by_cases h : l < n
  · have HE : Hid (szLeft l n = -1) := if_pos h
    go_enter Tryz.func56, Tryz.ntmps56
    go_wp2
    go_ret
    exact ⟨ret_int HE.out.symm, rfl⟩
  · have HE : Hid (szLeft l n = l - n) := if_neg h
    go_enter Tryz.func56, Tryz.ntmps56
    go_wp2
    go_ret
    exact ⟨ret_int HE.out.symm, rfl⟩

set_option maxHeartbeats 400000 in
theorem szContext (a : Option Addr) (n c : Nat) (l : Int) (w : World) (hn : n ≤ 9223372036854775807) (hl : 0 ≤ l) (hl' : l ≤ 1048576) :
    Calls Tryz.prog 32 #[.agg #[.slice a n c], .int .i64 l] w fun e w' => e = .returned (.int .i64 (szLeft l n)) ∧ Below w.heap.size w w' := by
  go_enter Tryz.func32, Tryz.ntmps32
  go_wp2_with fail
  refine (szRunS a n c l _ hn hl hl').mono ?_
  rintro e w1 ⟨rfl, rfl⟩
  by_cases h : l < n
  · have HE : Hid (szLeft l n = -1) := if_pos h
    rw [HE.out]
    go_wp2_with fail
    go_ret
    exact ⟨ret_int HE.out.symm, (Below.refl _ _).alloc (Nat.le_refl _) _⟩
  · have HE : Hid (szLeft l n = l - n) := if_neg h
    rw [HE.out]
    go_wp2_with fail
    go_ret
    exact ⟨ret_int HE.out.symm, (Below.refl _ _).alloc (Nat.le_refl _) _⟩

set_option maxHeartbeats 400000 in
theorem toRun (r f t : Int) (w : World) :
    Calls Tryz.prog 100 #[.agg #[.int .i64 r, .int .i64 f, .int .i64 t]] w fun e w' => e = .returned (.agg #[.int .i64 r, .int .i64 f, .int .i64 t]) ∧ Below w.heap.size w w' ∧ w.heap.size < w'.heap.size := by
  go_enter Tryz.func100, Tryz.ntmps100
  go_wp2
  refine bodyPost_ret (v := .agg #[.int .i64 r, .int .i64 f, .int .i64 t]) (by simp [results, Tryz.results100, go_sem]) rfl ⟨rfl, ?_, by simp; omega⟩
  exact (((Below.refl _ _).alloc (Nat.le_refl _) _).alloc (by simp) _).alloc (by simp; omega) _

theorem Tryz.infoRun : (Tryz.prog.info? 71).map (fun i => (i.zero, i.size, i.bytes)) = some (some (.agg #[.int .i64 0, .int .i64 0, .int .i64 0]), 3, 24) := by kernel_rfl

theorem bcell {W w1 : World} (hb : Below W.heap.size W w1) : (∀ b o, b < W.heap.size → w1.cell? ⟨b, o, none⟩ = W.cell? ⟨b, o, none⟩) ∧ (∀ b o, b < W.heap.size → w1.frozen? ⟨b, o, none⟩ = W.frozen? ⟨b, o, none⟩) :=
  ⟨fun b o h => hb.cell (p := ⟨b, o, none⟩) h, fun b o h => hb.frozen (p := ⟨b, o, none⟩) h⟩

theorem owns_below {w w1 : World} {B C : Nat} {e : TypeId} {size : Nat} {v : Value} {n : Nat} {xs : List Value} (h : w.ownsRow B e size v n xs) (hb : Below C w w1) (hc : ∀ k, v.ownBlock = some k → k < C) : w1.ownsRow B e size v n xs := by
  obtain ⟨h1, h2⟩ := h
  refine ⟨h1, ?_⟩
  rcases h2 with h2 | ⟨g, cap, cur, rfl, hbg, hg, r⟩
  · exact .inl h2
  · exact .inr ⟨g, cap, cur, rfl, hbg, by rw [hb.block g (hc g rfl)]; exact hg, r⟩

theorem owns_cell {w : World} {B : Nat} {e : TypeId} {size g n cap : Nat} {xs : List Value} (h : w.ownsRow B e size (.slice (some ⟨g, 0, none⟩) n cap) n xs) (j : Nat) (hj : j < n * size) : ∃ u, w.cell? ⟨g, j, none⟩ = some u := by
  rw [h.cellAt j hj]
  have := h.1
  exact ⟨_, List.getElem?_eq_getElem (by omega)⟩

set_option maxHeartbeats 400000 in
theorem toRunO (a : Option Addr) (n c : Nat) (R F T : Nat → Int) (w : World) (hn : n ≤ 1048576) (h : RSeg w a n R F T) :
    Calls Tryz.prog 66 #[.slice a n c] w fun e w' => e = .returned (.slice (some ⟨w.heap.size, 0, none⟩) n n) ∧ RSeg w' (some ⟨w.heap.size, 0, none⟩) n R F T ∧ Below w.heap.size w w' ∧ w.heap.size < w'.heap.size ∧ ∃ xs, w'.ownsRow w.heap.size 71 3 (.slice (some ⟨w.heap.size, 0, none⟩) n n) n xs := by
  obtain ⟨i0, hi, hz0, hz1, hz2⟩ := info_parts Tryz.infoRun
  have hm : n ≤ maxLen := by unfold maxLen; omega
  have hby : i0.bytes * n ≤ 281474976710656 := by rw [hz2]; omega
  rcases h with h | ⟨b, off, rfl, hb, hc⟩
  · subst h
    go_enter Tryz.func66, Tryz.ntmps66
    go_wp2_with (at_make; refine wpList_make_full _ rfl _ _ 32 rfl w.heap.size 71 i0 _ 3 Tryz.underlying32 hi hz0 hz1 _ _ _ _ 0 rfl rfl rfl rfl hby hm (Nat.le_refl _) ?_; intro w1 hown hgr)
    refine wp_loop_rounds 1 ?_; rw [rounds_succ]; go_wp2_with fail
    go_ret
    exact ⟨rfl, .inl rfl, (Below.refl _ _).grown hgr (Nat.le_refl _) (fun _ h => by cases h), (hown.lt _ rfl).2, _, hown⟩
  · go_enter Tryz.func66, Tryz.ntmps66
    go_wp2_with (at_make; refine wpList_make_full _ rfl _ _ 32 rfl w.heap.size 71 i0 _ 3 Tryz.underlying32 hi hz0 hz1 _ _ _ _ n rfl rfl rfl rfl hby hm (Nat.le_refl _) ?_; intro w1 hown hgr)
    have hbel : Below w.heap.size w w1 := (Below.refl _ _).grown hgr (Nat.le_refl _) (fun _ h => by cases h)
    have hown' : ∃ xs, w1.ownsRow w.heap.size 71 3 (.slice (some ⟨w.heap.size, 0, none⟩) n n) n xs := ⟨_, hown⟩
    clear hown hgr
    go_loopw [4] (fun i wr => ∃ k : Nat, k ≤ n ∧ i = .int .i64 k ∧ Below w.heap.size w wr ∧ ∃ xs : List Value, wr.ownsRow w.heap.size 71 3 (.slice (some ⟨w.heap.size, 0, none⟩) n n) n xs ∧ ∀ j, j < k → xs[j * 3]? = some (.int .i64 (R j)) ∧ xs[j * 3 + 1]? = some (.int .i64 (F j)) ∧ xs[j * 3 + 2]? = some (.int .i64 (T j))) (fun i _ => n - (intOf i).toNat)
    case atStart => obtain ⟨xs, ho⟩ := hown'; exact ⟨0, Nat.zero_le _, rfl, hbel, xs, ho, fun j hj => by omega⟩
    case round =>
      clear hown' hbel
      obtain ⟨k, hk, rfl, hbel, xs, hown, hxs⟩ := hrel
      by_cases hlt : k < n
      · have hck : wr.cell? ⟨b, off + k * 3, none⟩ = some (.int .i64 (R k)) := (hbel.cell (p := ⟨b, _, none⟩) hb).trans (hc k hlt).1
        have hck1 : wr.cell? ⟨b, off + k * 3 + 1, none⟩ = some (.int .i64 (F k)) := (hbel.cell (p := ⟨b, _, none⟩) hb).trans (hc k hlt).2.1
        have hck2 : wr.cell? ⟨b, off + k * 3 + 2, none⟩ = some (.int .i64 (T k)) := (hbel.cell (p := ⟨b, _, none⟩) hb).trans (hc k hlt).2.2
        clear hc
        go_wp2_with fail
        refine (toRun _ _ _ _).mono ?_
        rintro e w2 ⟨rfl, b2, z2⟩
        have hlw := (hown.lt w.heap.size rfl).2
        have ho2 := owns_below hown b2 (fun k hk => by simp [Value.ownBlock] at hk; omega)
        have b02 := hbel.trans (b2.mono (by omega))
        obtain ⟨u0, hu0⟩ := owns_cell ho2 (k * 3) (by omega)
        obtain ⟨u1, hu1⟩ := owns_cell ho2 (k * 3 + 1) (by omega)
        obtain ⟨u2, hu2⟩ := owns_cell ho2 (k * 3 + 2) (by omega)
        have f0 := ho2.frozenAt (k * 3)
        have f1 := ho2.frozenAt (k * 3 + 1)
        have f2 := ho2.frozenAt (k * 3 + 2)
        have hlen := ho2.1
        have HR := hid (((ho2.stored (k * 3) (.int .i64 (R k))).1.stored (k * 3 + 1) (.int .i64 (F k))).1.stored (k * 3 + 2) (.int .i64 (T k))).1
        have HX : Hid (∀ j, j < k + 1 → (((xs.set (k * 3) (.int .i64 (R k))).set (k * 3 + 1) (.int .i64 (F k))).set (k * 3 + 2) (.int .i64 (T k)))[j * 3]? = some (.int .i64 (R j)) ∧ (((xs.set (k * 3) (.int .i64 (R k))).set (k * 3 + 1) (.int .i64 (F k))).set (k * 3 + 2) (.int .i64 (T k)))[j * 3 + 1]? = some (.int .i64 (F j)) ∧ (((xs.set (k * 3) (.int .i64 (R k))).set (k * 3 + 1) (.int .i64 (F k))).set (k * 3 + 2) (.int .i64 (T k)))[j * 3 + 2]? = some (.int .i64 (T j))) := by
          intro j hj
          by_cases hjk : j = k
          · subst hjk
            refine ⟨?_, ?_, ?_⟩
            · rw [List.getElem?_set_ne (by omega), List.getElem?_set_ne (by omega), List.getElem?_set_self (by omega)]
            · rw [List.getElem?_set_ne (by omega), List.getElem?_set_self (by simp; omega)]
            · rw [List.getElem?_set_self (by simp; omega)]
          · obtain ⟨x0, x1, x2⟩ := hxs j (by omega)
            refine ⟨?_, ?_, ?_⟩
            · rw [List.getElem?_set_ne (by omega), List.getElem?_set_ne (by omega), List.getElem?_set_ne (by omega)]; exact x0
            · rw [List.getElem?_set_ne (by omega), List.getElem?_set_ne (by omega), List.getElem?_set_ne (by omega)]; exact x1
            · rw [List.getElem?_set_ne (by omega), List.getElem?_set_ne (by omega), List.getElem?_set_ne (by omega)]; exact x2
        have HB := hid (((b02.setCell (p := ⟨w.heap.size, k * 3, none⟩) (Nat.le_refl _) (.int .i64 (R k))).setCell (p := ⟨w.heap.size, k * 3 + 1, none⟩) (Nat.le_refl _) (.int .i64 (F k))).setCell (p := ⟨w.heap.size, k * 3 + 2, none⟩) (Nat.le_refl _) (.int .i64 (T k)))
        clear hown ho2 hxs hlen b02 b2 hbel
        go_wp2_with fail
        go_roundw
        case rel => exact ⟨k + 1, hlt, by go_num, HB.out, _, HR.out, HX.out⟩
        case measure => simp [intOf]; omega
      · obtain rfl : k = n := by omega
        have hlw := (hown.lt w.heap.size rfl).2
        have hsg : RSeg wr (some ⟨w.heap.size, 0, none⟩) k R F T := .inr ⟨w.heap.size, 0, rfl, hlw, fun i hi => by
          obtain ⟨x0, x1, x2⟩ := hxs i hi
          rw [Nat.zero_add, hown.cellAt _ (by omega), hown.cellAt _ (by omega), hown.cellAt _ (by omega)]
          exact ⟨x0, x1, x2⟩⟩
        have HR := hid hsg
        have HO := hid hown
        clear hown hxs hsg
        go_wp2_with fail
        go_ret
        exact ⟨rfl, HR.out, hbel, hlw, _, HO.out⟩

theorem toRunS (a : Option Addr) (n c : Nat) (R F T : Nat → Int) (w : World) (hn : n ≤ 1048576) (h : RSeg w a n R F T) :
    Calls Tryz.prog 66 #[.slice a n c] w fun e w' => e = .returned (.slice (some ⟨w.heap.size, 0, none⟩) n n) ∧ RSeg w' (some ⟨w.heap.size, 0, none⟩) n R F T ∧ Below w.heap.size w w' ∧ w.heap.size < w'.heap.size :=
  (toRunO a n c R F T w hn h).mono fun e w' h => ⟨h.1, h.2.1, h.2.2.1, h.2.2.2.1⟩

theorem owns_set {w : World} {B : Nat} {e : TypeId} {size g n cap : Nat} {xs : List Value} (h : w.ownsRow B e size (.slice (some ⟨g, 0, none⟩) n cap) n xs) (p : Addr) (u : Value) (hp : g ≠ p.block) : (w.setCell p u).ownsRow B e size (.slice (some ⟨g, 0, none⟩) n cap) n xs := by
  obtain ⟨h1, h2⟩ := h
  refine ⟨h1, ?_⟩
  rcases h2 with ⟨h2, _⟩ | ⟨g', cap', cur, e1, hb, hg, r⟩
  · cases h2
  · refine .inr ⟨g', cap', cur, e1, hb, ?_, r⟩
    injection e1 with e1
    injection e1 with e1
    injection e1 with e1
    subst e1
    exact (Below.heap_setCell _ _ _ _ hp).trans hg

set_option maxHeartbeats 400000 in
theorem toContextO (a : Option Addr) (n c : Nat) (R F T : Nat → Int) (w : World) (hn : n ≤ 1048576) (h : RSeg w a n R F T) :
    Calls Tryz.prog 39 #[.agg #[.slice a n c]] w fun e w' => ∃ g, w.heap.size ≤ g ∧ g < w'.heap.size ∧ e = .returned (.agg #[.slice (some ⟨g, 0, none⟩) n n]) ∧ RSeg w' (some ⟨g, 0, none⟩) n R F T ∧ Below w.heap.size w w' ∧ ∃ xs, w'.ownsRow w.heap.size 71 3 (.slice (some ⟨g, 0, none⟩) n n) n xs := by
  go_enter Tryz.func39, Tryz.ntmps39
  go_wp2_with fail
  refine (toRunO a n c R F T _ hn (h.below ((((Below.refl _ _).alloc (Nat.le_refl _) _).alloc (by simp) _).alloc (by simp; omega) _))).mono ?_
  rintro e w1 ⟨rfl, s1, b1, z1, xs, o1⟩
  obtain ⟨hc, hf⟩ := bcell b1
  have B0 : Below w.heap.size w w1 := ((((Below.refl _ _).alloc (Nat.le_refl _) _).alloc (by simp) _).alloc (by simp; omega) _).trans (b1.mono (by simp; omega))
  have hz : w.heap.size + 1 + 1 + 1 < w1.heap.size := by have := z1; simp at this; omega
  simp only [World.size_alloc] at s1 o1
  have HO := hid o1
  have HS := hid s1
  have HB := hid B0
  clear s1 B0 b1 z1 o1
  go_wp2_with fail
  refine bodyPost_ret (v := .agg #[.slice (some ⟨w.heap.size + 1 + 1 + 1, 0, none⟩) n n]) (by simp [results, Tryz.results39, go_sem, hc]) rfl ⟨w.heap.size + 1 + 1 + 1, by omega, by simp [World.setCell]; omega, rfl, ?_, ?_, xs, ?_⟩
  · exact (HS.out.set _ _ (fun x hx => by simp at hx; subst hx; simp)).set _ _ (fun x hx => by simp at hx; subst hx; simp; omega)
  · exact (HB.out.setCell (by simp; omega) _).setCell (by simp) _
  · have ho : w1.ownsRow w.heap.size 71 3 (.slice (some ⟨w.heap.size + 1 + 1 + 1, 0, none⟩) n n) n xs := by
      obtain ⟨q1, q2⟩ := HO.out
      refine ⟨q1, ?_⟩
      rcases q2 with q2 | ⟨g, cap, cur, e, hbg, r⟩
      · exact .inl q2
      · exact .inr ⟨g, cap, cur, e, by omega, r⟩
    exact owns_set (owns_set ho _ _ (by simp)) _ _ (by simp; omega)

theorem toContext (a : Option Addr) (n c : Nat) (R F T : Nat → Int) (w : World) (hn : n ≤ 1048576) (h : RSeg w a n R F T) :
    Calls Tryz.prog 39 #[.agg #[.slice a n c]] w fun e w' => ∃ g, w.heap.size ≤ g ∧ g < w'.heap.size ∧ e = .returned (.agg #[.slice (some ⟨g, 0, none⟩) n n]) ∧ RSeg w' (some ⟨g, 0, none⟩) n R F T ∧ Below w.heap.size w w' :=
  (toContextO a n c R F T w hn h).mono fun e w' ⟨g, h1, h2, h3, h4, h5, _⟩ => ⟨g, h1, h2, h3, h4, h5⟩

end Go.Proofs.YtdenbicnckkdfaaGreat

namespace Go.Proofs.YtdenbicnckkdfaaGreat
open Go.ChangeShapes Go.WideShapes Go.ChangeAt Go.RowKit
set_option linter.unusedVariables false

def Seg (w : World) (a : Option Addr) (n : Nat) (f : Nat → Int) : Prop :=
  n = 0 ∨ ∃ b off, a = some ⟨b, off, none⟩ ∧ b < w.heap.size ∧ ∀ i, i < n → w.cell? ⟨b, off + i, none⟩ = some (.int .u8 (f i))

def Byt (f : Nat → Int) : Prop := ∀ i, 0 ≤ f i ∧ f i < 256

theorem Seg.below {w w' : World} {a : Option Addr} {n : Nat} {f : Nat → Int} (h : Seg w a n f) (hb : Below w.heap.size w w') : Seg w' a n f := by
  rcases h with h | ⟨b, off, rfl, hlt, hc⟩
  · exact .inl h
  · exact .inr ⟨b, off, rfl, Nat.lt_of_lt_of_le hlt hb.size, fun i hi => (hb.cell (p := ⟨b, off + i, none⟩) hlt).trans (hc i hi)⟩

theorem Tryz.infoByte : (Tryz.prog.info? 5).map (fun i => (i.zero, i.size, i.bytes)) = some (some (.int .u8 0), 1, 1) := by kernel_rfl

def cells8 (f : Nat → Int) (n : Nat) : List Value := (List.range n).map fun i => .int .u8 (f i)
def mix (f : Nat → Int) (k : Nat) (i : Nat) : Int := if i < k then f i else 0

theorem cells8_get (f : Nat → Int) (n i : Nat) (h : i < n) : (cells8 f n)[i]? = some (.int .u8 (f i)) := by
  simp [cells8, h]

theorem cells8_zero (f : Nat → Int) (n : Nat) : (madeCells #[.int .u8 0] n).toList = cells8 (mix f 0) n := by
  rw [toList_madeCells_one]
  apply List.ext_getElem?
  intro j
  by_cases hj : j < n
  · simp [cells8, hj, mix]
  · simp [cells8, hj]

theorem cells8_set (f : Nat → Int) (n k : Nat) (h : k < n) : (cells8 (mix f k) n).set k (.int .u8 (f k)) = cells8 (mix f (k + 1)) n := by
  apply List.ext_getElem?
  intro j
  by_cases hj : j < n
  · by_cases hjk : k = j
    · subst hjk; simp [cells8, hj, mix]
    · rw [List.getElem?_set_ne hjk, cells8_get _ _ _ hj, cells8_get _ _ _ hj]
      have : mix f k j = mix f (k + 1) j := by unfold mix; split <;> split <;> first | rfl | omega
      rw [this]
  · rw [List.getElem?_eq_none (by simp [cells8]; omega), List.getElem?_eq_none (by simp [cells8]; omega)]

theorem seg_own {w : World} {B g n cap : Nat} {f : Nat → Int} (h : w.ownsRow B 5 1 (.slice (some ⟨g, 0, none⟩) n cap) n (cells8 (mix f n) n)) : Seg w (some ⟨g, 0, none⟩) n f := by
  refine .inr ⟨g, 0, rfl, (h.lt g rfl).2, fun i hi => ?_⟩
  rw [Nat.zero_add, h.cellAt i (by omega), cells8_get _ _ _ hi]
  simp [mix, hi]

set_option maxHeartbeats 400000 in
theorem eqByteS (a a' : Option Addr) (n c c' : Nat) (f : Nat → Int) (w : World) (hn : n ≤ 1000000000) (hf : Byt f) (h : Seg w a n f) (h' : Seg w a' n f) :
    Calls Tryz.prog 26 #[.slice a n c, .slice a' n c'] w fun e w' => e = .returned (.bool true) ∧ Below w.heap.size w w' := by
  rcases h with h | ⟨b, off, rfl, hb, hc⟩
  · subst h
    go_enter Tryz.func26, Tryz.ntmps26
    go_wp2
    refine wp_loop_rounds 1 ?_; rw [rounds_succ]; go_wp2
    go_ret
    exact ⟨rfl, Below.refl _ _⟩
  · rcases h' with h' | ⟨b', off', rfl, hb', hc'⟩
    · subst h'
      go_enter Tryz.func26, Tryz.ntmps26
      go_wp2
      refine wp_loop_rounds 1 ?_; rw [rounds_succ]; go_wp2
      go_ret
      exact ⟨rfl, Below.refl _ _⟩
    · go_enter Tryz.func26, Tryz.ntmps26
      go_wp2
      go_loopw [5] (fun i wr => ∃ k : Nat, k ≤ n ∧ i = .int .i64 k ∧ Below w.heap.size w wr) (fun i _ => n - (intOf i).toNat)
      case atStart => exact ⟨0, Nat.zero_le _, rfl, Below.refl _ _⟩
      case round =>
        obtain ⟨k, hk, rfl, hbel⟩ := hrel
        by_cases hlt : k < n
        · have hck : wr.cell? ⟨b, off + k, none⟩ = some (.int .u8 (f k)) := (hbel.cell (p := ⟨b, off + k, none⟩) hb).trans (hc k hlt)
          have hck' : wr.cell? ⟨b', off' + k, none⟩ = some (.int .u8 (f k)) := (hbel.cell (p := ⟨b', off' + k, none⟩) hb').trans (hc' k hlt)
          have hfk := hf k
          go_wp2
          go_region
          all_goals (try go_wp2)
          go_roundw
          case rel => exact ⟨k + 1, hlt, by go_num, hbel.drew⟩
          case measure => simp [intOf]; omega
        · obtain rfl : k = n := by omega
          go_wp2
          go_ret
          exact ⟨rfl, hbel⟩

theorem seg_of {w : World} {a0 : Option Addr} {len0 cap0 : Nat} {z0 : List Int}
    (w0 : (a0 = none ∧ len0 = 0 ∧ cap0 = 0 ∧ z0 = []) ∨
      ∃ x, a0 = some x ∧ len0 ≤ cap0 ∧ cap0 ≤ maxLen ∧ z0.length = cap0 ∧ (∀ i, i < z0.length → w.cell? (x.add i) = some (.int .u8 (z0.getD i 0))) ∧ ∀ n ∈ z0, (Lit.int .u8 n).wf = true) :
    Seg w a0 len0 (fun i => z0.getD i 0) ∧ Byt (fun i => z0.getD i 0) ∧ len0 ≤ 9223372036854775807 := by
  rcases w0 with ⟨rfl, rfl, rfl, rfl⟩ | ⟨⟨b, off, sp⟩, rfl, hl, hm, hz, hcell, hwz⟩
  · exact ⟨.inl rfl, fun i => by simp, by omega⟩
  · refine ⟨?_, fun i => ?_, by unfold maxLen at hm; omega⟩
    · by_cases h0 : len0 = 0
      · exact .inl h0
      · have hc0 := hcell 0 (by omega)
        have hsp : sp = none := by simpa [Addr.add] using World.cell?_spot hc0
        subst hsp
        refine .inr ⟨b, off, rfl, block_lt_of_cell hc0, fun i hi => ?_⟩
        have h := hcell i (by omega)
        by_cases hi0 : i = 0
        · subst hi0; simpa [Addr.add] using h
        · simpa [Addr.add, hi0] using h
    · by_cases hi : i < z0.length
      · have := hwz (z0.getD i 0) (by simp [List.getD, hi])
        have b := bounds_u8 this
        show 0 ≤ z0.getD i 0 ∧ z0.getD i 0 < 256
        omega
      · simp [List.getD, hi]
end Go.Proofs.YtdenbicnckkdfaaGreat
