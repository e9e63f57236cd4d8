import Derived.Test.YtcbcabhjododoaaGreatFg03
import Derived.Test.YtcbcabhjododoaaGreatFg01
set_option linter.unusedVariables false
set_option linter.unusedSimpArgs false
set_option maxRecDepth 100000
set_option maxHeartbeats 40000000
namespace Go.Proofs.YtcbcabhjododoaaGreat
open Go.ChangeShapes Go.WideShapes Go.ChangeAt Go.RowKit
theorem infoLeaf : (Tryz.prog.info? 57).map (fun i => (i.zero, i.size, i.bytes)) = some (some (.agg #[.slice none 0 0, .bool false, .int .i64 0, .int .i64 0, .string ByteArray.empty]), 5, 64) := by kernel_rfl
def LfAt (w : World) (B : Nat) (xs : List Value) (x : Lf) (j : Nat) : Prop :=
 ∃ g, B < g ∧ (g < w.heap.size ∧ PMk w g x.p.length) ∧ SSeg w (some ⟨g, 0, none⟩) x.p ∧ xs[j * 5]? = some (.slice (some ⟨g, 0, none⟩) x.p.length x.p.length) ∧ xs[j * 5 + 1]? = some (.bool x.fl) ∧ xs[j * 5 + 2]? = some (.int .i64 x.r) ∧ xs[j * 5 + 3]? = some (.int .i64 x.q) ∧ xs[j * 5 + 4]? = some (.string x.v)
def put5 (xs : List Value) (k : Nat) (v0 v1 v2 v3 v4 : Value) : List Value := ((((xs.set (k * 5) v0).set (k * 5 + 1) v1).set (k * 5 + 2) v2).set (k * 5 + 3) v3).set (k * 5 + 4) v4
theorem put5_ne {xs : List Value} {k j i : Nat} {v0 v1 v2 v3 v4 : Value} (h : j ≠ k) (hi : i < 5) : (put5 xs k v0 v1 v2 v3 v4)[j * 5 + i]? = xs[j * 5 + i]? := by
 unfold put5
 rw [List.getElem?_set_ne (by omega), List.getElem?_set_ne (by omega), List.getElem?_set_ne (by omega), List.getElem?_set_ne (by omega), List.getElem?_set_ne (by omega)]
theorem put5_at {xs : List Value} {k : Nat} {v0 v1 v2 v3 v4 : Value} (h : k * 5 + 4 < xs.length) : (put5 xs k v0 v1 v2 v3 v4)[k * 5]? = some v0 ∧ (put5 xs k v0 v1 v2 v3 v4)[k * 5 + 1]? = some v1 ∧ (put5 xs k v0 v1 v2 v3 v4)[k * 5 + 2]? = some v2 ∧ (put5 xs k v0 v1 v2 v3 v4)[k * 5 + 3]? = some v3 ∧ (put5 xs k v0 v1 v2 v3 v4)[k * 5 + 4]? = some v4 := by
 unfold put5
 refine ⟨?_, ?_, ?_, ?_, ?_⟩
 ·rw [List.getElem?_set_ne (by omega), List.getElem?_set_ne (by omega), List.getElem?_set_ne (by omega), List.getElem?_set_ne (by omega), List.getElem?_set_self (by omega)]
 ·rw [List.getElem?_set_ne (by omega), List.getElem?_set_ne (by omega), List.getElem?_set_ne (by omega), List.getElem?_set_self (by simp; omega)]
 ·rw [List.getElem?_set_ne (by omega), List.getElem?_set_ne (by omega), List.getElem?_set_self (by simp; omega)]
 ·rw [List.getElem?_set_ne (by omega), List.getElem?_set_self (by simp; omega)]
 ·rw [List.getElem?_set_self (by simp; omega)]
theorem LfAt.put {w w' : World} {B k j : Nat} {xs : List Value} {x : Lf} {v0 v1 v2 v3 v4 : Value} (h : LfAt w B xs x j) (hj : j ≠ k) (hs : w.heap.size ≤ w'.heap.size) (hb : ∀ g, B < g → g < w.heap.size → w'.heap[g]? = w.heap[g]?) : LfAt w' B (put5 xs k v0 v1 v2 v3 v4) x j := by
 obtain ⟨g, h1, h2, h3, h4, h5, h6, h7, h8⟩ := h
 refine ⟨g, h1, ⟨by have := h2.1; omega, h2.2.same (hb g h1 h2.1)⟩, h3.same hs (fun x hx => by simp at hx; subst hx; exact hb g h1 h2.1), ?_, ?_, ?_, ?_, ?_⟩
 ·exact (put5_ne (i := 0) hj (by omega)).trans h4
 ·exact (put5_ne (i := 1) hj (by omega)).trans h5
 ·exact (put5_ne (i := 2) hj (by omega)).trans h6
 ·exact (put5_ne (i := 3) hj (by omega)).trans h7
 ·exact (put5_ne (i := 4) hj (by omega)).trans h8
theorem set5_heap {w : World} {b k g : Nat} {v0 v1 v2 v3 v4 : Value} (h : b < g) : (((((w.setCell ⟨b, k * 5, none⟩ v0).setCell ⟨b, k * 5 + 1, none⟩ v1).setCell ⟨b, k * 5 + 2, none⟩ v2).setCell ⟨b, k * 5 + 3, none⟩ v3).setCell ⟨b, k * 5 + 4, none⟩ v4).heap[g]? = w.heap[g]? := by
 have q : ∀ (w : World) (o : Nat) (v : Value), (w.setCell ⟨b, o, none⟩ v).heap[g]? = w.heap[g]? := fun w o v => Below.heap_setCell _ _ _ _ (by simp; omega)
 rw [q, q, q, q, q]
theorem set5_size {w : World} {b k : Nat} {v0 v1 v2 v3 v4 : Value} : (((((w.setCell ⟨b, k * 5, none⟩ v0).setCell ⟨b, k * 5 + 1, none⟩ v1).setCell ⟨b, k * 5 + 2, none⟩ v2).setCell ⟨b, k * 5 + 3, none⟩ v3).setCell ⟨b, k * 5 + 4, none⟩ v4).heap.size = w.heap.size := by simp [World.setCell]
def LCap (w : World) (a : Option Addr) (l : List Lf) : Prop :=
 l.length = 0 ∨ ∃ b off, a = some ⟨b, off, none⟩ ∧ b < w.heap.size ∧ ∀ i, i < l.length → ∃ pa pc, (w.cell? ⟨b, off + i * 5, none⟩ = some (.slice pa (gL l i).p.length pc) ∧ (gL l i).p.length ≤ pc ∧ pc ≤ 9223372036854775807) ∧ SSeg w pa (gL l i).p ∧ w.cell? ⟨b, off + i * 5 + 1, none⟩ = some (.bool (gL l i).fl) ∧ w.cell? ⟨b, off + i * 5 + 2, none⟩ = some (.int .i64 (gL l i).r) ∧ w.cell? ⟨b, off + i * 5 + 3, none⟩ = some (.int .i64 (gL l i).q) ∧ w.cell? ⟨b, off + i * 5 + 4, none⟩ = some (.string (gL l i).v)
theorem LCap.below {w w1 : World} {a : Option Addr} {l : List Lf} (h : LCap w a l) (hb : Below w.heap.size w w1) : LCap w1 a l := by
 refine h.imp id ?_
 rintro ⟨b, off, e, hlt, hc⟩
 refine ⟨b, off, e, Nat.lt_of_lt_of_le hlt hb.size, fun i hi => ?_⟩
 obtain ⟨pa, pc, ⟨c0, d0⟩, s, c1, c2, c3, c4⟩ := hc i hi
 have q := fun o => hb.cell (p := ⟨b, o, none⟩) hlt
 exact ⟨pa, pc, ⟨(q _).trans c0, d0⟩, s.below hb, (q _).trans c1, (q _).trans c2, (q _).trans c3, (q _).trans c4⟩
theorem LCap.seg {w : World} {a : Option Addr} {l : List Lf} (h : LCap w a l) : LSeg w a l := by
 refine h.imp id ?_
 rintro ⟨b, off, e, hlt, hc⟩
 refine ⟨b, off, e, hlt, fun i hi => ?_⟩
 obtain ⟨pa, pc, ⟨c0, _⟩, s, c1, c2, c3, c4⟩ := hc i hi
 exact ⟨pa, pc, c0, s, c1, c2, c3, c4⟩
def LNew (w : World) (B : Nat) (a : Option Addr) (l : List Lf) : Prop := ∀ w', w.heap.size ≤ w'.heap.size → (∀ g, B ≤ g → g < w.heap.size → w'.heap[g]? = w.heap[g]?) → LCap w' a l
theorem LNew.cap {w : World} {B : Nat} {a : Option Addr} {l : List Lf} (h : LNew w B a l) : LCap w a l := h w (Nat.le_refl _) (fun _ _ _ => rfl)
theorem LNew.seg {w : World} {B : Nat} {a : Option Addr} {l : List Lf} (h : LNew w B a l) : LSeg w a l := h.cap.seg
theorem LNew.move {w w1 : World} {B C : Nat} {a : Option Addr} {l : List Lf} (h : LNew w B a l) (hBC : C ≤ B) (hs : w.heap.size ≤ w1.heap.size) (hb : ∀ g, B ≤ g → g < w.heap.size → w1.heap[g]? = w.heap[g]?) : LNew w1 C a l :=
 fun w' hs' hb' => h w' (Nat.le_trans hs hs') (fun g h1 h2 => (hb' g (Nat.le_trans hBC h1) (Nat.lt_of_lt_of_le h2 hs)).trans (hb g h1 h2))
theorem LNew.set {w : World} {B : Nat} {a : Option Addr} {l : List Lf} (h : LNew w B a l) (q : Addr) (u : Value) (hq : q.block < B) : LNew (w.setCell q u) B a l :=
 h.move (Nat.le_refl _) (by simp [World.setCell]) (fun g h1 h2 => Below.heap_setCell _ _ _ _ (by omega))
theorem LNew.below {w w1 : World} {B : Nat} {a : Option Addr} {l : List Lf} (h : LNew w B a l) (hb : Below w.heap.size w w1) : LNew w1 B a l :=
 h.move (Nat.le_refl _) hb.size (fun g h1 h2 => hb.block g h2)
def LMk (w : World) (lo hi b : Nat) (l : List Lf) : Prop :=
 (lo ≤ b ∧ b < hi) ∧ (∃ cur, w.heap[b]? = some (.cells cur 57 (0, 0)) ∧ l.length * 5 ≤ cur.size) ∧ ∀ i, i < l.length → ∃ g, w.cell? ⟨b, i * 5, none⟩ = some (.slice (some ⟨g, 0, none⟩) (gL l i).p.length (gL l i).p.length) ∧ g ≠ b ∧ lo ≤ g ∧ g < hi ∧ PMk w g (gL l i).p.length
theorem LMk.same {w w' : World} {lo hi b : Nat} {l : List Lf} (h : LMk w lo hi b l) (e : ∀ g, lo ≤ g → g < hi → w'.heap[g]? = w.heap[g]?) : LMk w' lo hi b l := by
 obtain ⟨h1, ⟨cur, h2, h3⟩, h4⟩ := h
 refine ⟨h1, ⟨cur, (e b h1.1 h1.2).trans h2, h3⟩, fun i hi' => ?_⟩
 obtain ⟨g, g1, g2, g3, g4, g5⟩ := h4 i hi'
 exact ⟨g, (World.cell?_of_block (a := ⟨b, i * 5, none⟩) (e b h1.1 h1.2)).trans g1, g2, g3, g4, g5.same (e g g3 g4)⟩
theorem LMk.set {w : World} {lo hi b : Nat} {l : List Lf} (h : LMk w lo hi b l) (q : Addr) (u : Value) (hq : q.block < lo) : LMk (w.setCell q u) lo hi b l := h.same fun g h1 h2 => Below.heap_setCell _ _ _ _ (by omega)
theorem LMk.wide {w : World} {lo hi b lo' hi' : Nat} {l : List Lf} (h : LMk w lo hi b l) (h1 : lo' ≤ lo) (h2 : hi ≤ hi') : LMk w lo' hi' b l :=
 ⟨⟨Nat.le_trans h1 h.1.1, Nat.lt_of_lt_of_le h.1.2 h2⟩, h.2.1, fun i hi'' => by
  obtain ⟨g, g1, g2, g3, g4, g5⟩ := h.2.2 i hi''
  exact ⟨g, g1, g2, Nat.le_trans h1 g3, Nat.lt_of_lt_of_le g4 h2, g5⟩⟩
theorem toLeaves (a : Option Addr) (c : Nat) (l : List Lf) (w : World) (hn : l.length ≤ 1048576) (hp : LBd l) (h : LSeg w a l) :
  Calls Tryz.prog 27 #[.slice a l.length c] w fun e w' => e = .returned (.slice (some ⟨w.heap.size, 0, none⟩) l.length l.length) ∧ LNew w' w.heap.size (some ⟨w.heap.size, 0, none⟩) l ∧ Below w.heap.size w w' ∧ (w.heap.size < w'.heap.size ∧ LMk w' w.heap.size w'.heap.size w.heap.size l) := by
 obtain ⟨i0, hi, hz0, hz1, hz2⟩ := info_parts infoLeaf
 have hm : l.length ≤ maxLen := by unfold maxLen; omega
 have hby : i0.bytes * l.length ≤ 281474976710656 := by rw [hz2]; omega
 go_enter Tryz.func27, Tryz.ntmps27
 go_wp2_with (at_make; refine wpList_make_full _ rfl _ _ 31 rfl w.heap.size 57 i0 _ 5 Tryz.underlying31 hi hz0 hz1 _ _ _ _ l.length rfl rfl rfl rfl hby hm (Nat.le_refl _) ?_; intro w1 hown hgr)
 have hbel : Below w.heap.size w w1 := (Below.refl _ _).grown hgr (Nat.le_refl _) (fun _ h => by cases h)
 have hown' : ∃ xs, w1.ownsRow w.heap.size 57 5 (.slice (some ⟨w.heap.size, 0, none⟩) l.length l.length) l.length xs := ⟨_, hown⟩
 clear hown hgr
 go_loopw [4] (fun i wr => ∃ k : Nat, k ≤ l.length ∧ i = .int .i64 k ∧ Hid (Below w.heap.size w wr) ∧ ∃ xs : List Value, Hid (wr.ownsRow w.heap.size 57 5 (.slice (some ⟨w.heap.size, 0, none⟩) l.length l.length) l.length xs) ∧ Hid (∀ j, j < k → LfAt wr w.heap.size xs (gL l j) j)) (fun i _ => l.length - (intOf i).toNat)
 case atStart => obtain ⟨xs, ho⟩ := hown'; exact ⟨0, Nat.zero_le _, rfl, hid hbel, xs, hid ho, hid (fun j hj => by omega)⟩
 case round =>
  clear hown' hbel
  obtain ⟨k, hk, rfl, hbel, xs, hown, hxs⟩ := hrel
  have hlw := (hown.out.lt w.heap.size rfl).2
  by_cases hlt : k < l.length
  ·rcases h with h | ⟨b, off, rfl, hb, hc⟩
   ·omega
   obtain ⟨pa, pc, c0, s, c1, c2, c3, c4⟩ := hc k hlt
   have x0 := (hbel.out.cell (p := ⟨b, off + k * 5, none⟩) hb).trans c0
   have x1 := (hbel.out.cell (p := ⟨b, off + k * 5 + 1, none⟩) hb).trans c1
   have x2 := (hbel.out.cell (p := ⟨b, off + k * 5 + 2, none⟩) hb).trans c2
   have x3 := (hbel.out.cell (p := ⟨b, off + k * 5 + 3, none⟩) hb).trans c3
   have x4 := (hbel.out.cell (p := ⟨b, off + k * 5 + 4, none⟩) hb).trans c4
   have HT := hid (toLeafC pa pc (gL l k).p (gL l k).fl (gL l k).r (gL l k).q (gL l k).v wr (hp k) (s.below hbel.out))
   have i1 : (0 : Int) ≤ (k : Int) := Int.natCast_nonneg _
   have i2 : (k : Int) < (l.length : Int) := by omega
   clear hc c0 s c1 c2 c3 c4
   go_wp2_with fail
   refine HT.out.mono ?_
   rintro e w2 ⟨g, hg1, hg2, rfl, s2, b2⟩
   have ho2 := owns_below hown.out b2 (fun k hk => by simp [Value.ownBlock] at hk; omega)
   obtain ⟨u0, hu0⟩ := owns_cell ho2 (k * 5) (by omega)
   obtain ⟨u1, hu1⟩ := owns_cell ho2 (k * 5 + 1) (by omega)
   obtain ⟨u2, hu2⟩ := owns_cell ho2 (k * 5 + 2) (by omega)
   obtain ⟨u3, hu3⟩ := owns_cell ho2 (k * 5 + 3) (by omega)
   obtain ⟨u4, hu4⟩ := owns_cell ho2 (k * 5 + 4) (by omega)
   have f0 := ho2.frozenAt (k * 5)
   have f1 := ho2.frozenAt (k * 5 + 1)
   have f2 := ho2.frozenAt (k * 5 + 2)
   have f3 := ho2.frozenAt (k * 5 + 3)
   have f4 := ho2.frozenAt (k * 5 + 4)
   have hlen := ho2.1
   have HR := hid (((((ho2.stored (k * 5) (.slice (some ⟨g, 0, none⟩) (gL l k).p.length (gL l k).p.length)).1.stored (k * 5 + 1) (.bool (gL l k).fl)).1.stored (k * 5 + 2) (.int .i64 (gL l k).r)).1.stored (k * 5 + 3) (.int .i64 (gL l k).q)).1.stored (k * 5 + 4) (.string (gL l k).v)).1
   have b02 := hbel.out.trans (b2.mono (by omega))
   have HB := hid (((((b02.setCell (p := ⟨w.heap.size, k * 5, none⟩) (Nat.le_refl _) (.slice (some ⟨g, 0, none⟩) (gL l k).p.length (gL l k).p.length)).setCell (p := ⟨w.heap.size, k * 5 + 1, none⟩) (Nat.le_refl _) (.bool (gL l k).fl)).setCell (p := ⟨w.heap.size, k * 5 + 2, none⟩) (Nat.le_refl _) (.int .i64 (gL l k).r)).setCell (p := ⟨w.heap.size, k * 5 + 3, none⟩) (Nat.le_refl _) (.int .i64 (gL l k).q)).setCell (p := ⟨w.heap.size, k * 5 + 4, none⟩) (Nat.le_refl _) (.string (gL l k).v))
   have HX : Hid (∀ j, j < k + 1 → LfAt (((((w2.setCell ⟨w.heap.size, k * 5, none⟩ (.slice (some ⟨g, 0, none⟩) (gL l k).p.length (gL l k).p.length)).setCell ⟨w.heap.size, k * 5 + 1, none⟩ (.bool (gL l k).fl)).setCell ⟨w.heap.size, k * 5 + 2, none⟩ (.int .i64 (gL l k).r)).setCell ⟨w.heap.size, k * 5 + 3, none⟩ (.int .i64 (gL l k).q)).setCell ⟨w.heap.size, k * 5 + 4, none⟩ (.string (gL l k).v)) w.heap.size (put5 xs k (.slice (some ⟨g, 0, none⟩) (gL l k).p.length (gL l k).p.length) (.bool (gL l k).fl) (.int .i64 (gL l k).r) (.int .i64 (gL l k).q) (.string (gL l k).v)) (gL l j) j) := hid (fun j hj => by
    by_cases hjk : j = k
    ·subst hjk
     obtain ⟨q0, q1, q2, q3, q4⟩ := put5_at (xs := xs) (k := j) (v0 := .slice (some ⟨g, 0, none⟩) (gL l j).p.length (gL l j).p.length) (v1 := .bool (gL l j).fl) (v2 := .int .i64 (gL l j).r) (v3 := .int .i64 (gL l j).q) (v4 := .string (gL l j).v) (by omega)
     exact ⟨g, by omega, ⟨by rw [set5_size]; exact hg2.1, hg2.2.same (set5_heap (show w.heap.size < g by omega))⟩, s2.same (by rw [set5_size]; omega) (fun x hx => by simp at hx; subst hx; exact set5_heap (show w.heap.size < g by omega)), q0, q1, q2, q3, q4⟩
    ·exact (hxs.out j (by omega)).put hjk (by rw [set5_size]; exact b2.size) (fun g h1 h2 => (set5_heap h1).trans (b2.block g h2)))
   clear hown hxs ho2 hlen b02 b2 hbel s2 HT x0 x1 x2 x3 x4
   obtain ⟨vx, hvx⟩ : ∃ x, gL l k = x := ⟨_, rfl⟩
   rw [hvx] at HR HB HX
   rw [hvx]
   clear hvx
   go_wp2_with fail
   go_roundw
   case rel => exact ⟨k + 1, hlt, by go_num, HB, _, HR, HX⟩
   case measure => simp [intOf]; omega
  ·obtain rfl : k = l.length := by omega
   have hsg : LNew wr w.heap.size (some ⟨w.heap.size, 0, none⟩) l := fun w' hs hb => .inr ⟨w.heap.size, 0, rfl, by omega, fun i hi => by
    obtain ⟨g, h1, h2, h3, h4, h5, h6, h7, h8⟩ := hxs.out i hi
    have hown := hown.out
    have q : ∀ o, w'.cell? ⟨w.heap.size, o, none⟩ = wr.cell? ⟨w.heap.size, o, none⟩ := fun o => World.cell?_of_block (w := wr) (w' := w') (a := ⟨w.heap.size, o, none⟩) (hb _ (Nat.le_refl _) hlw)
    exact ⟨_, _, ⟨by rw [Nat.zero_add, q, hown.cellAt _ (by omega)]; exact h4, Nat.le_refl _, by have := hp i; omega⟩, h3.same hs (fun x hx => by simp at hx; subst hx; exact hb g (Nat.le_of_lt h1) h2.1), by rw [Nat.zero_add, q, hown.cellAt _ (by omega)]; exact h5, by rw [Nat.zero_add, q, hown.cellAt _ (by omega)]; exact h6, by rw [Nat.zero_add, q, hown.cellAt _ (by omega)]; exact h7, by rw [Nat.zero_add, q, hown.cellAt _ (by omega)]; exact h8⟩⟩
   have HR := hid hsg
   have HM : Hid (LMk wr w.heap.size wr.heap.size w.heap.size l) := hid (by
    have hown := hown.out
    refine ⟨⟨Nat.le_refl _, hlw⟩, ?_, fun i hi => ?_⟩
    ·rcases hown.2 with ⟨h0, _⟩ | ⟨g', cap', cur, hv, hbase, hb, h1, h2, h3, h4⟩
     ·cases h0
     ·cases hv
      exact ⟨cur, hb, by omega⟩
    ·obtain ⟨g, h1, h2, h3, h4, h5, h6, h7, h8⟩ := hxs.out i hi
     exact ⟨g, by rw [hown.cellAt _ (by omega)]; exact h4, by omega, by omega, h2.1, h2.2⟩)
   clear hown hxs hsg h
   go_wp2_with fail
   go_ret
   exact ⟨rfl, HR.out, hbel.out, hlw, HM.out⟩
theorem toStateC (a : Option Addr) (c : Nat) (l : List Lf) (x : Option Addr) (n d : Nat) (R F T : Nat → Int) (w : World) (hn : l.length ≤ 1048576) (hp : LBd l) (hm : n ≤ 1048576) (h : LSeg w a l) (h' : RSeg w x n R F T) :
  Calls Tryz.prog 9 #[.agg #[.slice a l.length c, .slice x n d]] w fun e w' => ∃ g k, w.heap.size ≤ g ∧ (g < w'.heap.size ∧ LMk w' w.heap.size w'.heap.size g l) ∧ w.heap.size ≤ k ∧ (k < w'.heap.size ∧ ∃ ys, w'.ownsRow w.heap.size 94 3 (.slice (some ⟨k, 0, none⟩) n n) n ys) ∧ e = .returned (.agg #[.slice (some ⟨g, 0, none⟩) l.length l.length, .slice (some ⟨k, 0, none⟩) n n]) ∧ LNew w' w.heap.size (some ⟨g, 0, none⟩) l ∧ RSeg w' (some ⟨k, 0, none⟩) n R F T ∧ Below w.heap.size w w' := by
 have HR' := hid h'
 clear h'
 go_enter Tryz.func9, Tryz.ntmps9
 go_wp2_with fail
 refine (toLeaves a c l _ hn hp (h.below ((((Below.refl _ _).alloc (Nat.le_refl _) _).alloc (by simp) _).alloc (by simp; omega) _))).mono ?_
 rintro e w1 ⟨rfl, s1, b1, z1, M1⟩
 obtain ⟨⟨hc0, hc1, hc2⟩, hf1, hf2⟩ := three b1
 have B0 : Below w.heap.size w w1 := ((((Below.refl _ _).alloc (Nat.le_refl _) _).alloc (by simp) _).alloc (by simp; omega) _).trans (b1.mono (by simp; omega))
 have hz : w.heap.size + 1 + 1 + 1 < w1.heap.size := by have := z1; simp at this; omega
 simp only [World.size_alloc] at s1 M1
 have HS := hid s1
 have HM := hid M1
 have HB := hid B0
 have k1 : w1.cell? ⟨w.heap.size, 1, none⟩ = some (.slice x n d) := by rw [hc0]; simp
 have o0 : w1.cell? ⟨w.heap.size + 1, 0, none⟩ = some (.slice none 0 0) := by rw [hc1, World.cell?_alloc_at _ _ _ _ (by simp)]; rfl
 have o1 : w1.cell? ⟨w.heap.size + 1, 1, none⟩ = some (.slice none 0 0) := by rw [hc1, World.cell?_alloc_at _ _ _ _ (by simp)]; rfl
 have fo : ∀ i, w1.frozen? ⟨w.heap.size + 1, i, none⟩ = false := fun i => by rw [hf1, World.frozen?_alloc_at _ _ _ _ (by simp)]
 have x0 : w1.cell? ⟨w.heap.size + 1 + 1, 0, none⟩ = some (.slice none 0 0) := by rw [hc2, World.cell?_alloc_at _ _ _ _ (by simp)]; rfl
 have x1 : w1.cell? ⟨w.heap.size + 1 + 1, 1, none⟩ = some (.slice none 0 0) := by rw [hc2, World.cell?_alloc_at _ _ _ _ (by simp)]; rfl
 have fx : ∀ i, w1.frozen? ⟨w.heap.size + 1 + 1, i, none⟩ = false := fun i => by rw [hf2, World.frozen?_alloc_at _ _ _ _ (by simp)]
 clear s1 M1 B0 b1 z1 hc0 hc1 hc2 hf1 hf2 h
 go_wp2_with fail
 obtain ⟨W, hW⟩ : ∃ W, w1.setCell ⟨w.heap.size + 1 + 1, 0, none⟩ (.slice (some ⟨w.heap.size + 1 + 1 + 1, 0, none⟩) l.length l.length) = W := ⟨_, rfl⟩
 have X0 : W.cell? ⟨w.heap.size + 1 + 1, 0, none⟩ = some (.slice (some ⟨w.heap.size + 1 + 1 + 1, 0, none⟩) l.length l.length) := by rw [← hW]; exact World.cell?_setCell_same _ _ _ x0
 have X1 : W.cell? ⟨w.heap.size + 1 + 1, 1, none⟩ = some (.slice none 0 0) := by rw [← hW]; simp [World.cell?_setCell_other, x1]
 have FX : ∀ i, W.frozen? ⟨w.heap.size + 1 + 1, i, none⟩ = false := fun i => by rw [← hW, World.frozen?_setCell]; exact fx i
 have FO : ∀ i, W.frozen? ⟨w.heap.size + 1, i, none⟩ = false := fun i => by rw [← hW, World.frozen?_setCell]; exact fo i
 have O0 : W.cell? ⟨w.heap.size + 1, 0, none⟩ = some (.slice none 0 0) := by rw [← hW, World.cell?_setCell_far _ _ _ _ (by simp)]; exact o0
 have O1 : W.cell? ⟨w.heap.size + 1, 1, none⟩ = some (.slice none 0 0) := by rw [← hW, World.cell?_setCell_far _ _ _ _ (by simp)]; exact o1
 have hS : LNew W (w.heap.size + 1 + 1 + 1) (some ⟨w.heap.size + 1 + 1 + 1, 0, none⟩) l := by rw [← hW]; exact HS.out.set _ _ (by simp)
 have hM : LMk W (w.heap.size + 1 + 1 + 1) W.heap.size (w.heap.size + 1 + 1 + 1) l := by rw [← hW]; exact (HM.out.set _ _ (by simp)).wide (Nat.le_refl _) (by simp [World.setCell])
 have hB : Below w.heap.size w W := by rw [← hW]; exact HB.out.setCell (by simp; omega) _
 have zW : w.heap.size + 1 + 1 + 1 < W.heap.size := by rw [← hW]; simp [World.setCell]; exact hz
 rw [hW]
 clear hW HS HM HB k1 o0 o1 x0 x1 fx fo hz
 refine (toContextO x n d R F T W hm (HR'.out.below hB)).mono ?_
 rintro e w2 ⟨k, hk1, hk2, rfl, s2, b2, ys, o2⟩
 have HOW : Hid (w2.ownsRow w.heap.size 94 3 (.slice (some ⟨k, 0, none⟩) n n) n ys) := hid (by
  obtain ⟨q1, q2⟩ := o2
  refine ⟨q1, ?_⟩
  rcases q2 with q2 | ⟨g, cap, cur, e, hbg, r⟩
  ·exact .inl q2
  ·exact .inr ⟨g, cap, cur, e, Nat.le_trans hB.size hbg, r⟩)
 have HM2 := hid ((hM.same (fun g _ h2 => b2.block g h2)).wide (show w.heap.size ≤ w.heap.size + 1 + 1 + 1 by omega) (Nat.le_refl W.heap.size))
 have HM := hid (hM.same (fun g _ h2 => b2.block g h2))
 have HWs := hid b2.size
 have HS := hid (hS.below b2)
 have HB := hid (hB.trans (b2.mono hB.size))
 have HK := hid s2
 have hz : w.heap.size + 1 + 1 + 1 < w2.heap.size := Nat.lt_of_lt_of_le zW b2.size
 have x0 := (b2.cell (p := ⟨w.heap.size + 1 + 1, 0, none⟩) (show w.heap.size + 1 + 1 < W.heap.size by omega)).trans X0
 have x1 := (b2.cell (p := ⟨w.heap.size + 1 + 1, 1, none⟩) (show w.heap.size + 1 + 1 < W.heap.size by omega)).trans X1
 have o0 := (b2.cell (p := ⟨w.heap.size + 1, 0, none⟩) (show w.heap.size + 1 < W.heap.size by omega)).trans O0
 have o1 := (b2.cell (p := ⟨w.heap.size + 1, 1, none⟩) (show w.heap.size + 1 < W.heap.size by omega)).trans O1
 have fx : ∀ i, w2.frozen? ⟨w.heap.size + 1 + 1, i, none⟩ = false := fun i => (b2.frozen (p := ⟨w.heap.size + 1 + 1, i, none⟩) (show w.heap.size + 1 + 1 < W.heap.size by omega)).trans (FX i)
 have fo : ∀ i, w2.frozen? ⟨w.heap.size + 1, i, none⟩ = false := fun i => (b2.frozen (p := ⟨w.heap.size + 1, i, none⟩) (show w.heap.size + 1 < W.heap.size by omega)).trans (FO i)
 have hk3 : w.heap.size + 1 + 1 < k := by omega
 clear hS hB hM b2 X0 X1 O0 O1 FX FO s2 o2 zW hk1 HM2
 go_wp2_with fail
 refine bodyPost_ret (v := .agg #[.slice (some ⟨w.heap.size + 1 + 1 + 1, 0, none⟩) l.length l.length, .slice (some ⟨k, 0, none⟩) n n]) (by simp [results, Tryz.results9, go_sem, o0, o1]) rfl ⟨w.heap.size + 1 + 1 + 1, k, by omega, ⟨by simp [World.setCell]; omega, ?_⟩, by omega, ⟨by simp [World.setCell]; omega, ys, ?_⟩, rfl, ?_, ?_, ?_⟩
 ·refine LMk.wide (lo := w.heap.size + 1 + 1 + 1) (hi := W.heap.size) ?_ (by omega) (by simp [World.setCell]; exact HWs.out)
  repeat (refine LMk.set ?_ _ _ (by simp; try omega))
  exact HM.out
 ·repeat (refine owns_set ?_ _ _ (by simp; try omega))
  exact HOW.out
 ·refine LNew.move (B := w.heap.size + 1 + 1 + 1) ?_ (by omega) (Nat.le_refl _) (fun _ _ _ => rfl)
  repeat (refine LNew.set ?_ _ _ (by simp; try omega))
  exact HS.out
 ·repeat (refine RSeg.set ?_ _ _ (fun x hx => by simp at hx; subst hx; simp; try omega))
  exact HK.out
 ·repeat (refine Below.setCell ?_ (by simp; try omega) _)
  exact HB.out
theorem szStateC (a : Option Addr) (c : Nat) (l : List Lf) (x : Option Addr) (n d : Nat) (k : Int) (w : World) (hk0 : 0 ≤ k) (hk1 : k ≤ 1048576) (hn : l.length ≤ 9223372036854775807) (hm : n ≤ 9223372036854775807) (hb : ∀ i, LfBig (gL l i)) (h : LSeg w a l) :
  Calls Tryz.prog 6 #[.agg #[.slice a l.length c, .slice x n d], .int .i64 k] w fun e w' => (∃ k', e = .returned (.int .i64 k') ∧ -1 ≤ k' ∧ k' ≤ k ∧ (0 ≤ k' → (l.length ≤ 1048576 ∧ ∀ i, LfSm (gL l i)) ∧ n ≤ 1048576)) ∧ Below w.heap.size w w' := by
 obtain ⟨W, hW⟩ : ∃ W, w.alloc (.cells #[.slice a l.length c, .slice x n d] 27) = W := ⟨_, rfl⟩
 have b0 : Below w.heap.size w W := by rw [← hW]; exact (Below.refl _ _).alloc (Nat.le_refl _) _
 have zW : w.heap.size < W.heap.size := by rw [← hW]; simp
 have k0 : W.cell? ⟨w.heap.size, 0, none⟩ = some (.slice a l.length c) := by rw [← hW]; simp
 have k1 : W.cell? ⟨w.heap.size, 1, none⟩ = some (.slice x n d) := by rw [← hW]; simp
 have HS := hid (szLeaves a c l k W hk0 hk1 hn hb (h.below b0))
 have HB0 := hid b0
 clear h b0 hb
 go_enter Tryz.func6, Tryz.ntmps6
 go_wp2_with fail
 try rw [hW]
 clear hW
 refine HS.out.mono ?_
 rintro e w1 ⟨⟨k', rfl, hk'0, hk'1, hps⟩, b1⟩
 have m1 := (b1.cell (p := ⟨w.heap.size, 1, none⟩) zW).trans k1
 have HPS := hid hps
 have HB1 := hid (HB0.out.trans (b1.mono HB0.out.size))
 clear hps HS HB0 k0 k1 b1 zW
 by_cases hneg : k' < 0
 ·have d0 : decide (k' < 0) = true := by simpa using hneg
  go_wp2_with fail
  go_ret
  exact ⟨⟨-1, rfl, by omega, by omega, fun h => by omega⟩, HB1.out⟩
 ·have d0 : decide (k' < 0) = false := by simpa using hneg
  go_wp2_with fail
  refine (szContext x n d k' w1 hm (by omega) (by omega)).mono ?_
  rintro e w2 ⟨rfl, b2⟩
  have HB2 := hid (HB1.out.trans (b2.mono HB1.out.size))
  clear b2 m1
  by_cases hlt : k' < (n : Int)
  ·rw [show szLeft k' n = -1 from if_pos (by omega)]
   go_wp2_with fail
   go_ret
   exact ⟨⟨-1, rfl, by omega, by omega, fun h => by omega⟩, HB2.out⟩
  ·obtain ⟨k2, hk2⟩ : ∃ k2, k' - (n : Int) = k2 := ⟨_, rfl⟩
   have e2 : szLeft k' n = k2 := by rw [show szLeft k' n = k' - n from if_neg (by omega)]; exact hk2
   rw [e2]
   have d1 : decide (k2 < 0) = false := by simp; omega
   have HN : Hid (n ≤ 1048576) := hid (by omega)
   have c1 : -1 ≤ k2 ∧ k2 ≤ k := by omega
   clear e2 hk2 hlt
   go_wp2_with fail
   go_ret
   exact ⟨⟨k2, rfl, c1.1, c1.2, fun _ => ⟨HPS.out (by omega), HN.out⟩⟩, HB2.out⟩
def mk3 (k0 c : Nat) (i : Nat) : Int := ((k0 + 3 * i + c : Nat) : Int)
theorem markRunS (B g n cap : Nat) (k0 : Nat) (ys : List Value) (w : World) (hk0 : k0 ≤ 9000000000000) (hn1 : n ≤ 1000000000) (ho : w.ownsRow B 94 3 (.slice (some ⟨g, 0, none⟩) n cap) n ys) :
  Calls Tryz.prog 62 #[.slice (some ⟨g, 0, none⟩) n cap, .int .i64 (k0 : Int)] w fun e w' => e = .returned (.int .i64 ((k0 + 3 * n : Nat) : Int)) ∧ Below B w w' ∧ w'.heap.size = w.heap.size ∧ RSeg w' (some ⟨g, 0, none⟩) n (mk3 k0 0) (mk3 k0 1) (mk3 k0 2) ∧ (∀ b, b ≠ g → w'.heap[b]? = w.heap[b]?) := by
 go_enter Tryz.func62, Tryz.ntmps62
 go_wp2_with fail
 go_loopw [1, 5] (fun k i wr => ∃ (j m : Nat), j ≤ n ∧ m = k0 + 3 * j ∧ i = .int .i64 (j : Int) ∧ k = .int .i64 (m : Int) ∧ Hid (Below B w wr) ∧ Hid (wr.heap.size = w.heap.size) ∧ Hid (∀ b, b ≠ g → wr.heap[b]? = w.heap[b]?) ∧ ∃ xs : List Value, Hid (wr.ownsRow B 94 3 (.slice (some ⟨g, 0, none⟩) n cap) n xs) ∧ Hid (∀ t, t < j → xs[t * 3]? = some (.int .i64 (mk3 k0 0 t)) ∧ xs[t * 3 + 1]? = some (.int .i64 (mk3 k0 1 t)) ∧ xs[t * 3 + 2]? = some (.int .i64 (mk3 k0 2 t)))) (fun _ i _ => n - (intOf i).toNat)
 case atStart => exact ⟨0, k0, Nat.zero_le _, rfl, rfl, rfl, hid (Below.refl _ _), hid rfl, hid (fun _ _ => rfl), _, hid ho, hid (fun t ht => by omega)⟩
 case round =>
  clear ho
  obtain ⟨j, m, hj, hm, rfl, rfl, hbel, hsz, hoth, xs, hown, hxs⟩ := hrel
  by_cases hlt : j < n
  ·have f0 := hown.out.frozenAt (j * 3)
   have f1 := hown.out.frozenAt (j * 3 + 1)
   have f2 := hown.out.frozenAt (j * 3 + 2)
   obtain ⟨u0, hu0⟩ := owns_cell hown.out (j * 3) (by omega)
   obtain ⟨u1, hu1⟩ := owns_cell hown.out (j * 3 + 1) (by omega)
   obtain ⟨u2, hu2⟩ := owns_cell hown.out (j * 3 + 2) (by omega)
   have hlen := hown.out.1
   have HR := hid (((hown.out.stored (j * 3) (.int .i64 (m : Int))).1.stored (j * 3 + 1) (.int .i64 ((m : Int) + 1))).1.stored (j * 3 + 2) (.int .i64 ((m : Int) + 1 + 1))).1
   have HX : Hid (∀ t, t < j + 1 → (((xs.set (j * 3) (.int .i64 (m : Int))).set (j * 3 + 1) (.int .i64 ((m : Int) + 1))).set (j * 3 + 2) (.int .i64 ((m : Int) + 1 + 1)))[t * 3]? = some (.int .i64 (mk3 k0 0 t)) ∧ (((xs.set (j * 3) (.int .i64 (m : Int))).set (j * 3 + 1) (.int .i64 ((m : Int) + 1))).set (j * 3 + 2) (.int .i64 ((m : Int) + 1 + 1)))[t * 3 + 1]? = some (.int .i64 (mk3 k0 1 t)) ∧ (((xs.set (j * 3) (.int .i64 (m : Int))).set (j * 3 + 1) (.int .i64 ((m : Int) + 1))).set (j * 3 + 2) (.int .i64 ((m : Int) + 1 + 1)))[t * 3 + 2]? = some (.int .i64 (mk3 k0 2 t))) := by
    intro t ht
    by_cases htj : t = j
    ·subst htj
     refine ⟨?_, ?_, ?_⟩
     ·rw [List.getElem?_set_ne (by omega), List.getElem?_set_ne (by omega), List.getElem?_set_self (by omega)]; unfold mk3; congr 2; omega
     ·rw [List.getElem?_set_ne (by omega), List.getElem?_set_self (by simp; omega)]; unfold mk3; congr 2; omega
     ·rw [List.getElem?_set_self (by simp; omega)]; unfold mk3; congr 2; omega
    ·obtain ⟨x0, x1, x2⟩ := hxs.out t (by omega)
     refine ⟨?_, ?_, ?_⟩
     ·rw [List.getElem?_set_ne (by omega), List.getElem?_set_ne (by omega), List.getElem?_set_ne (by omega)]; exact x0
     ·rw [List.getElem?_set_ne (by omega), List.getElem?_set_ne (by omega), List.getElem?_set_ne (by omega)]; exact x1
     ·rw [List.getElem?_set_ne (by omega), List.getElem?_set_ne (by omega), List.getElem?_set_ne (by omega)]; exact x2
   have hg0 := (hown.out.lt g rfl).1
   have HB := hid (((hbel.out.setCell (p := ⟨g, j * 3, none⟩) hg0 (.int .i64 (m : Int))).setCell (p := ⟨g, j * 3 + 1, none⟩) hg0 (.int .i64 ((m : Int) + 1))).setCell (p := ⟨g, j * 3 + 2, none⟩) hg0 (.int .i64 ((m : Int) + 1 + 1)))
   have HZ : Hid ((((wr.setCell ⟨g, j * 3, none⟩ (.int .i64 (m : Int))).setCell ⟨g, j * 3 + 1, none⟩ (.int .i64 ((m : Int) + 1))).setCell ⟨g, j * 3 + 2, none⟩ (.int .i64 ((m : Int) + 1 + 1))).heap.size = w.heap.size) := by show _ = _; rw [← hsz.out]; simp [World.setCell]
   have HO : Hid (∀ b, b ≠ g → (((wr.setCell ⟨g, j * 3, none⟩ (.int .i64 (m : Int))).setCell ⟨g, j * 3 + 1, none⟩ (.int .i64 ((m : Int) + 1))).setCell ⟨g, j * 3 + 2, none⟩ (.int .i64 ((m : Int) + 1 + 1))).heap[b]? = w.heap[b]?) := fun b hb => (Below.heap_setCell _ _ _ _ hb).trans ((Below.heap_setCell _ _ _ _ hb).trans ((Below.heap_setCell _ _ _ _ hb).trans (hoth.out b hb)))
   clear hlen hg0
   have hmb : m ≤ 9000000000000 + 3000000000 := by omega
   have HM := hid hm
   clear hm
   go_wp2_with fail
   go_roundw
   case rel => exact ⟨j + 1, m + 3, hlt, by have := HM.out; omega, by go_num, by go_num, HB, HZ, HO, _, HR, HX⟩
   case measure => simp [intOf]; omega
  ·obtain rfl : j = n := by omega
   have hsg : RSeg wr (some ⟨g, 0, none⟩) j (mk3 k0 0) (mk3 k0 1) (mk3 k0 2) := .inr ⟨g, 0, rfl, (hown.out.lt g rfl).2, fun i hi => by
    obtain ⟨x0, x1, x2⟩ := hxs.out i hi
    rw [Nat.zero_add, hown.out.cellAt _ (by omega), hown.out.cellAt _ (by omega), hown.out.cellAt _ (by omega)]
    exact ⟨x0, x1, x2⟩⟩
   have HR := hid hsg
   clear hsg
   subst hm
   go_wp2_with fail
   go_ret
   exact ⟨by simp, hbel.out, hsz.out, HR.out, hoth.out⟩
theorem markContext (B g n cap : Nat) (k0 : Nat) (ys : List Value) (w : World) (hB : B ≤ w.heap.size) (hk0 : k0 ≤ 9000000000000) (hn1 : n ≤ 1000000000) (ho : w.ownsRow B 94 3 (.slice (some ⟨g, 0, none⟩) n cap) n ys) :
  Calls Tryz.prog 34 #[.agg #[.slice (some ⟨g, 0, none⟩) n cap], .int .i64 (k0 : Int)] w fun e w' => e = .returned (.int .i64 ((k0 + 3 * n : Nat) : Int)) ∧ Below B w w' ∧ RSeg w' (some ⟨g, 0, none⟩) n (mk3 k0 0) (mk3 k0 1) (mk3 k0 2) ∧ w.heap.size ≤ w'.heap.size ∧ (∀ b, b < w.heap.size → b ≠ g → w'.heap[b]? = w.heap[b]?) := by
 have HB0 : Hid (Below w.heap.size w (w.alloc (.cells #[.slice (some ⟨g, 0, none⟩) n cap] 34))) := (Below.refl _ _).alloc (Nat.le_refl _) _
 go_enter Tryz.func34, Tryz.ntmps34
 go_wp2_with fail
 refine (markRunS B g n cap k0 ys _ hk0 hn1 (ho.alloc _)).mono ?_
 rintro e w1 ⟨rfl, b1, z1, s1, o1⟩
 have hbx : w1.cell? ⟨w.heap.size, 0, none⟩ = some (.slice (some ⟨g, 0, none⟩) n cap) := by
  have hgl := (ho.lt g rfl).2
  rw [World.cell?_of_block (o1 w.heap.size (by omega))]; simp
 have HB1 := hid b1
 have HZ1 := hid z1
 have HS1 := hid s1
 have HO1 := hid o1
 clear b1 z1 s1 o1
 go_wp2_with fail
 go_ret
 refine ⟨by simp, ?_, HS1.out, ?_, fun b hb hg => (HO1.out b hg).trans (HB0.out.block b hb)⟩
 ·exact (HB0.out.mono hB).trans HB1.out
 ·have := HZ1.out; simp at this; omega
end Go.Proofs.YtcbcabhjododoaaGreat
