import Derived.Test.YthoilicolakofaaDoorFw
namespace Go.Proofs.YthoilicolakofaaDoor
open Go.ChangeShapes Go.WideShapes Go.ChangeAt Go.RowKit
set_option linter.unusedVariables false
set_option linter.unusedSimpArgs false

def Bx3 (W : World) (b : Nat) (v0 v1 v2 : Value) : Prop := W.cell? ⟨b, 0, none⟩ = some v0 ∧ W.cell? ⟨b, 1, none⟩ = some v1 ∧ W.cell? ⟨b, 2, none⟩ = some v2
theorem Bx3.below {W W' : World} {B b : Nat} {v0 v1 v2 : Value} (h : Bx3 W b v0 v1 v2) (hb : Below B W W') (hB : b < B) : Bx3 W' b v0 v1 v2 :=
  ⟨(hb.cell (p := ⟨b, 0, none⟩) hB).trans h.1, (hb.cell (p := ⟨b, 1, none⟩) hB).trans h.2.1, (hb.cell (p := ⟨b, 2, none⟩) hB).trans h.2.2⟩
theorem Bx3.blk {W W' : World} {b : Nat} {v0 v1 v2 : Value} (h : Bx3 W b v0 v1 v2) (hk : W'.heap[b]? = W.heap[b]?) : Bx3 W' b v0 v1 v2 :=
  ⟨(World.cell?_of_block (a := ⟨b, 0, none⟩) hk).trans h.1, (World.cell?_of_block (a := ⟨b, 1, none⟩) hk).trans h.2.1, (World.cell?_of_block (a := ⟨b, 2, none⟩) hk).trans h.2.2⟩
theorem Bx3.new (w : World) (v0 v1 v2 : Value) (t : TypeId) : Bx3 (w.alloc (.cells #[v0, v1, v2] t)) w.heap.size v0 v1 v2 := by simp [Bx3]
theorem Bx3.lt {W : World} {b : Nat} {v0 v1 v2 : Value} (h : Bx3 W b v0 v1 v2) : b < W.heap.size := by
  rcases Nat.lt_or_ge b W.heap.size with h1 | h1
  · exact h1
  · have := h.1; simp [World.cell?, Array.getElem?_eq_none h1] at this

theorem seg_cong {w : World} {a : Option Addr} {n : Nat} {f g : Nat → Int} (h : Seg w a n f) (he : ∀ i, i < n → f i = g i) : Seg w a n g := by
  refine h.imp id ?_
  rintro ⟨b, off, e, hb, hc⟩
  exact ⟨b, off, e, hb, fun i hi => by rw [hc i hi, he i hi]⟩
theorem own_seg {w : World} {B n : Nat} {v : Value} {f : Nat → Int} (h : Own w B v (payl f n)) : ∃ a c, v = .slice a n c ∧ Seg w a n f := by
  obtain ⟨a, c, e, s⟩ := h.any
  rw [payl_len] at e s
  exact ⟨a, c, e, seg_cong s (fun i hi => by simp [payl, List.getD, hi])⟩
theorem own_of_row {w : World} {B g n c : Nat} {xs : List Value} {f : Nat → Int} (h : w.ownsRow B 5 1 (.slice (some ⟨g, 0, none⟩) n c) n xs) (s : Seg w (some ⟨g, 0, none⟩) n f) : Own w B (.slice (some ⟨g, 0, none⟩) n c) (payl f n) := by
  have e : xs = (payl f n).map (Value.int .u8) := by
    refine List.ext_getElem? (fun i => ?_)
    by_cases hi : i < n
    · have h1 := h.cellAt i (by omega)
      rcases s with s | ⟨b, off, e, _, hc⟩
      · omega
      · injection e with e; injection e with e1 e2 _
        subst e1 e2
        have h2 := hc i hi
        rw [Nat.zero_add] at h2
        rw [← h1, h2]
        simp [payl, hi]
    · have h1 : xs.length = n * 1 := h.1
      rw [List.getElem?_eq_none (by omega), List.getElem?_eq_none (by simp [payl]; omega)]
  unfold Own
  rw [payl_len, ← e]
  exact h

theorem feedF_sum (f : Nat → Int) (hf : Byt f) (N : Nat) : ∀ k p, N - p < k → p ≤ N → (((feedF f N p).2.2.map (fun x => 8 + x.2.length)).sum + p ≤ N ∧ ∀ x ∈ (feedF f N p).2.2, x.2.length ≤ 4000)
  | 0, _, h, _ => absurd h (by omega)
  | k + 1, p, h, hp => by
    by_cases h0 : (firstF (shF f p) (N - p)).2 = 0
    · rw [feedF_stop h0]; exact ⟨by simpa using hp, fun x hx => by simp at hx⟩
    · have hle := firstF_le (shF f p) (N - p)
      obtain ⟨g1, g2, g3, g4⟩ := firstF_go h0
      have hh : headF (shF f p) (N - p) = (0, (headF (shF f p) (N - p)).2.1, (headF (shF f p) (N - p)).2.2) := by rw [← g2]
      obtain ⟨_, _, _, _, _, hl, _, hat, _⟩ := headF_ok (shF_byt hf p) hh g3
      have hu := uvF_len 9 (headF (shF f p) (N - p)).2.2
      rw [feedF_go h0]
      have := feedF_sum f hf N k (p + (firstF (shF f p) (N - p)).2) (by omega) (by omega)
      have hfl : (frameF f N p).2.length = (headF (shF f p) (N - p)).2.2 := by unfold frameF; simp [payl]
      refine ⟨?_, fun x hx => ?_⟩
      · show ((frameF f N p :: _).map _).sum + p ≤ N
        rw [List.map_cons, List.sum_cons, hfl]
        have h1 := this.1
        omega
      · rcases List.mem_cons.1 hx with rfl | hx
        · rw [hfl]; exact hl
        · exact this.2 x hx

def SpA (w w' : World) (m : Nat) (fr : Nat → Int) (T Fl : Int) (fs : List (Int × List Int)) (e : Ending) : Prop :=
  ∃ a c fv l, e = .returned (.tuple #[.agg #[.slice a m c, .int .i64 T, .int .i64 Fl], fv]) ∧ Seg w' a m fr ∧ FxW w' w.heap.size fv l ∧ l.map prFx = fs
def ImA (w w' : World) (m : Nat) (fr : Nat → Int) (T Fl : Int) (fs : List (Int × List Int)) (e : Ending) : Prop :=
  ∃ v fv l, e = .returned (.tuple #[.agg #[v, .int .i64 T, .int .i64 Fl], fv]) ∧ Own w' w.heap.size v (payl fr m) ∧ FxR w' w.heap.size fv l ∧ l.map prFx = fs
    ∧ ∀ k, v.ownBlock = some k → fv.ownBlock ≠ some k ∧ ∀ i, i < l.length → (gFx l i).2.1.ownBlock ≠ some k
theorem FxW.weak {w : World} {B B' : Nat} {v : Value} {l : List Fx} (h : FxW w B v l) (hB : B' ≤ B) : FxW w B' v l :=
  ⟨row_weak h.row hB, fun i hi => own_weak (h.pay i hi) hB⟩
theorem feedBoth (n1 n2 : Nat) (f f2 : Nat → Int) (tk fl : Int) (hn : n1 ≤ 1048576) (hn2 : n2 ≤ 1048576) (hf : Byt f) (hf2 : Byt f2) (htk : tk = IntKind.i64.wrap tk) :
    ∃ (m : Nat) (fr : Nat → Int) (T Fl : Int) (fs : List (Int × List Int)), m ≤ 2097152 ∧ (fs.map (fun x => 8 + x.2.length)).sum ≤ 2097152 ∧ (∀ x ∈ fs, x.2.length ≤ 4000) ∧
      (∀ (g1 c1 g2 c2 : Nat) (w : World), Seg w (some ⟨g1, 0, none⟩) n1 f → Seg w (some ⟨g2, 0, none⟩) n2 f2 → Calls Tryd.prog 5 #[.agg #[.slice (some ⟨g1, 0, none⟩) n1 c1, .int .i64 tk, .int .i64 fl], .slice (some ⟨g2, 0, none⟩) n2 c2] w fun e w' => Below w.heap.size w w' ∧ SpA w w' m fr T Fl fs e) ∧
      (∀ (B g1 c1 g2 c2 : Nat) (aT aS aL aE : Addr) (w : World), Seg w (some ⟨g1, 0, none⟩) n1 f → Seg w (some ⟨g2, 0, none⟩) n2 f2 → Errs w B aT aS aL aE → B ≤ w.heap.size → Calls Tryd.prog 8 #[.agg #[.slice (some ⟨g1, 0, none⟩) n1 c1, .int .i64 tk, .int .i64 fl], .slice (some ⟨g2, 0, none⟩) n2 c2] w fun e w' => Below w.heap.size w w' ∧ ImA w w' m fr T Fl fs e) := by
  by_cases hfl : fl = 0
  · subst hfl
    have hby : Byt (gz (payl f n1 ++ payl f2 n2)) := gz_byte (fun z hz => by
      rcases List.mem_append.1 hz with hz | hz
      · obtain ⟨i, _, rfl⟩ := List.mem_map.1 hz; exact hf i
      · obtain ⟨i, _, rfl⟩ := List.mem_map.1 hz; exact hf2 i)
    have hs := feedF_sum _ hby (n1 + n2) (n1 + n2 + 1) 0 (by omega) (Nat.zero_le _)
    refine ⟨restF (gz (payl f n1 ++ payl f2 n2)) (n1 + n2), shF (gz (payl f n1 ++ payl f2 n2)) (feedF (gz (payl f n1 ++ payl f2 n2)) (n1 + n2) 0).2.1, IntKind.i64.wrap (tk + ((feedF (gz (payl f n1 ++ payl f2 n2)) (n1 + n2) 0).2.1 : Nat)), ((feedF (gz (payl f n1 ++ payl f2 n2)) (n1 + n2) 0).1 : Nat), (feedF (gz (payl f n1 ++ payl f2 n2)) (n1 + n2) 0).2.2, ?_, by have := hs.1; omega, hs.2, fun g1 c1 g2 c2 w s1 s2 => ?_, fun B g1 c1 g2 c2 aT aS aL aE w s1 s2 hE hB => ?_⟩
    · unfold restF; split <;> omega
    · refine (specFeedC g1 n1 c1 g2 n2 c2 f f2 tk w hn hn2 hf hf2 s1 s2 htk).mono ?_
      rintro e w' ⟨hb, a, m, c, fv, l, rfl, rfl, s, fx, hl⟩
      exact ⟨hb, a, c, fv, l, rfl, s.seg, fx.weak (by omega), hl⟩
    · refine (implFeedC g1 n1 c1 g2 n2 c2 f f2 tk B aT aS aL aE w hn hn2 hf hf2 s1 s2 hE hB).mono ?_
      rintro e w' ⟨hb, v, fv, l, rfl, o, fx, hl, _, sp⟩
      exact ⟨hb, v, fv, l, rfl, o, fx, hl, sp⟩
  · refine ⟨n1, f, tk, fl, [], by omega, by simp, fun x hx => by simp at hx, fun g1 c1 g2 c2 w s1 s2 => ?_, fun B g1 c1 g2 c2 aT aS aL aE w s1 s2 hE hB => ?_⟩
    · refine (specFeedFail g1 n1 c1 _ n2 c2 f tk fl w hn hfl s1).mono ?_
      rintro e w' ⟨hb, v, fv, rfl, o, fx⟩
      obtain ⟨a, c, rfl, s⟩ := own_seg o
      exact ⟨hb, a, c, fv, [], rfl, s, fx.weak (by omega), rfl⟩
    · refine (implFeedFail g1 n1 c1 f tk fl _ w hn hfl s1).mono ?_
      rintro e w' ⟨hb, v, rfl, o⟩
      exact ⟨hb, v, _, [], rfl, o, fxr_nil _ _, rfl, fun k hk => ⟨by simp [Value.ownBlock], fun i hi => by simp at hi⟩⟩

theorem FxR.kept2 {w w' : World} {B : Nat} {v : Value} {l : List Fx} (h : FxR w B v l) {row : Option Nat} (hg : w.grownBy w' row) (hr : ∀ k, row = some k → v.ownBlock ≠ some k ∧ ∀ i, i < l.length → (gFx l i).2.1.ownBlock ≠ some k) : FxR w' B v l := by
  refine ⟨World.ownsRow.kept h.row hg ?_, fun i hi => (h.pay i hi).gr hg (fun g e1 e2 => (hr g e2.symm).2 i hi e1), h.far, h.dis⟩
  cases e : v.ownBlock with
  | none => exact .inl rfl
  | some g => exact .inr (fun e2 => (hr g e2.symm).1 e)
theorem FxW.fxs {w : World} {B : Nat} {v : Value} {l : List Fx} (h : FxW w B v l) : ∃ a c, v = .slice a l.length c ∧ FxS w a l := by
  rcases h.row.2 with ⟨e, e0⟩ | ⟨g, cap, cur, e, hb, _⟩
  · exact ⟨none, 0, by rw [e, e0], .inl e0⟩
  · refine ⟨_, cap, e, .inr ⟨g, 0, rfl, (World.ownsRow.lt h.row g (by rw [e]; rfl)).2, fun i hi => ?_⟩⟩
    have h1 := h.row
    rw [e] at h1
    obtain ⟨pa, pc, e1, s1⟩ := (h.pay i hi).any
    rw [Nat.zero_add]
    refine ⟨?_, ?_, pa, pc, e1, s1⟩
    · rw [h1.cellAt _ (by omega)]; exact (fxCells_get l i hi).1
    · rw [h1.cellAt _ (by omega)]; exact (fxCells_get l i hi).2
theorem fx_bounds {l : List Fx} {fs : List (Int × List Int)} (he : l.map prFx = fs) (h1 : (fs.map (fun x => 8 + x.2.length)).sum ≤ 2097152) (h2 : ∀ x ∈ fs, x.2.length ≤ 4000) :
    l.length ≤ 1048576 ∧ (∀ i, (gFx l i).2.2.length ≤ 1048576) ∧ ∀ k0, mkPos k0 l l.length ≤ k0 + 2097152 := by
  subst he
  have hs : ∀ l : List Fx, ((l.map prFx).map (fun x => 8 + x.2.length)).sum = 8 * l.length + (l.map (fun x => x.2.2.length)).sum ∧ (l.map (fun x => 1 + x.2.2.length)).sum = l.length + (l.map (fun x => x.2.2.length)).sum := by
    intro l
    induction l with
    | nil => simp
    | cons a l ih =>
      have h1 := ih.1
      have h2 := ih.2
      simp only [List.map_cons, List.sum_cons, List.length_cons, prFx] at h1 h2 ⊢
      constructor <;> omega
  have q := hs l
  refine ⟨by omega, fun i => ?_, fun k0 => ?_⟩
  · by_cases hi : i < l.length
    · have hm : gFx l i ∈ l := by
        have e : gFx l i = l[i] := by simp [gFx, List.getD, hi]
        rw [e]; exact List.getElem_mem hi
      have := h2 (prFx (gFx l i)) (List.mem_map.2 ⟨_, hm, rfl⟩)
      have h3 : (gFx l i).2.2.length ≤ 4000 := this
      omega
    · have e : gFx l i = (0, .slice none 0 0, []) := by
        simp [gFx, List.getD, List.getElem?_eq_none (show l.length ≤ i by omega)]
      rw [e]; simp
  · unfold mkPos
    rw [List.take_length]
    omega
end Go.Proofs.YthoilicolakofaaDoor
