import Derived.Test.YtdenbicnckkdfaaGreatMg41
import Derived.Test.YtdenbicnckkdfaaGreatMg32
import Derived.Test.YtdenbicnckkdfaaGreatMg29
namespace Go.Proofs.YtdenbicnckkdfaaGreat
open Go.ChangeShapes Go.WideShapes Go.ChangeAt Go.RowKit
set_option linter.unusedVariables false
set_option linter.unusedSimpArgs false

set_option maxRecDepth 100000 in

theorem copyRow (t e : TypeId) (i : TypeInfo) (z : Value) (size bytes : Nat) (ht : Tryz.prog.underlying t = some (.slice e)) (hi : Tryz.prog.info? e = some i) (hz : i.zero = some z) (hsize : i.size = size) (hby : i.bytes = bytes) (hzs : z.cells.size = size) (hsz : 0 < size) (hb2 : bytes ≤ 64) (g off m c : Nat) (C : Nat → Value) (w : World) (hm : m ≤ 1048576) (hC : ∀ j, j < m * size → w.cell? ⟨g, off + j, none⟩ = some (C j)) (h1 : ∀ j, j < m * size → (C j).oneCell' = true) :
    ∃ a cap w', (Builtin.append_ #[t, t] t #[.slice none 0 0, .slice (some ⟨g, off, none⟩) m c]).run Tryz.prog w = .ok (.slice a m cap) w' ∧ w'.ownsRow w.heap.size e size (.slice a m cap) m ((List.range (m * size)).map C) ∧ Below w.heap.size w w' ∧ (m = 0 → a = none ∧ cap = 0) ∧ (0 < m → ∃ q, a = some ⟨q, 0, none⟩ ∧ w.heap.size ≤ q ∧ q < w'.heap.size ∧ Wr w' q e (m * size) C) := by
  obtain ⟨v', w', hr, h2, h3, h4, h5⟩ := run_append_own_at (P := Tryz.prog) w w.heap.size t t e i z size bytes ht hi hz hsize hby hzs hsz (.slice none 0 0) 0 [] (World.ownsRow_nil _ _ _ _) ⟨g, off, none⟩ m c ((List.range (m * size)).map C) (by simp) (fun j u hj => by
    simp only [List.getElem?_map, Option.map_eq_some_iff] at hj
    obtain ⟨q, hq, rfl⟩ := hj
    have hlt : j < m * size := by
      rcases Nat.lt_or_ge j (m * size) with h | h
      · exact h
      · rw [List.getElem?_eq_none (by simpa using h)] at hq; cases hq
    rw [List.getElem?_range hlt] at hq
    have hq := Option.some.inj hq
    rw [← hq, addr_addP]; exact hC j hlt) (fun u hu => by
    obtain ⟨j, hj, rfl⟩ := List.mem_map.1 hu
    exact h1 j (by simpa using hj)) (by unfold maxLen; omega) (by
      have : m * bytes ≤ 1048576 * 64 := Nat.mul_le_mul hm hb2
      rw [Nat.zero_add]; omega) (Nat.le_refl _)
  rw [Nat.zero_add, List.nil_append] at h2
  have hbl : Below w.heap.size w w' := (Below.refl _ _).grown h3 (Nat.le_refl _) (fun k e => by simp [Value.ownBlock] at e)
  by_cases h0 : m = 0
  · have hv : v' = .slice none 0 0 := h4.2 ⟨rfl, h0⟩
    subst hv
    subst h0
    exact ⟨none, 0, w', hr, h2, hbl, fun _ => ⟨rfl, rfl⟩, fun h => by omega⟩
  · rcases h2.2 with ⟨_, hh⟩ | ⟨q, cap, cur, rfl, hbq, hq, hn, hmx, hcs, htk⟩
    · exact absurd hh h0
    · refine ⟨_, cap, w', hr, h2, hbl, fun h => absurd h h0, fun _ => ⟨q, rfl, hbq, (Array.getElem?_eq_some_iff.1 hq).1, cur, hq, ?_, fun j hj => ?_⟩⟩
      · have := congrArg List.length htk
        simp at this
        omega
      · have e1 : (cur.toList.take (m * size))[j]? = ((List.range (m * size)).map C)[j]? := by rw [htk]
        rw [List.getElem?_take_of_lt hj] at e1
        rw [← Array.getElem?_toList, e1]
        simp [List.getElem?_range hj]
set_option maxRecDepth 100000 in
set_option maxHeartbeats 1000000 in
theorem copyStrC (g off m c : Nat) (p : List ByteArray) (w : World) (hp : p.length = m) (hm : m ≤ 1048576) (h : ∀ t, t < m → w.cell? ⟨g, off + t, none⟩ = some (.string (gS p t))) :
    Calls Tryz.prog 68 #[.slice (some ⟨g, off, none⟩) m c] w fun e w' => ∃ a cap, e = .returned (.slice a m cap) ∧ Below w.heap.size w w' ∧ (0 < m → ∃ q, a = some ⟨q, 0, none⟩ ∧ w.heap.size ≤ q ∧ q < w'.heap.size ∧ Wr w' q 9 m (fun t => .string (gS p t))) := by
  obtain ⟨i0, hi, hz0, hz1, hz2⟩ := info_parts infoStr
  obtain ⟨a, cap, w', happ, _, hb, _, hw⟩ := copyRow 65 9 i0 _ 1 16 Tryz.underlying65 hi hz0 hz1 hz2 rfl (by decide) (by omega) g off m c (fun t => .string (gS p t)) w hm (fun j hj => h j (by omega)) (fun _ _ => rfl)
  rw [Nat.mul_one] at hw
  have HB := hid hb
  have HW := hid hw
  clear hb hw h
  go_enter Tryz.func68, Tryz.ntmps68
  go_wp2_with (at_builtin; refine wpList_app2 rfl _ _ _ _ rfl happ (by rfl) (by rfl) rfl ?_; clear happ)
  go_ret
  exact ⟨a, cap, rfl, HB.out, HW.out⟩
theorem rn_of {w : World} {q n : Nat} {R F T : Nat → Int} (h : Wr w q 71 (n * 3) (fun j => if j % 3 = 0 then .int .i64 (R (j / 3)) else if j % 3 = 1 then .int .i64 (F (j / 3)) else .int .i64 (T (j / 3)))) : RSeg w (some ⟨q, 0, none⟩) n R F T := by
  refine .inr ⟨q, 0, rfl, h.lt, fun i hi => ?_⟩
  have c0 := h.cell (i := i * 3) (by omega)
  have c1 := h.cell (i := i * 3 + 1) (by omega)
  have c2 := h.cell (i := i * 3 + 2) (by omega)
  rw [if_pos (by omega), show i * 3 / 3 = i by omega] at c0
  rw [if_neg (by omega), if_pos (by omega), show (i * 3 + 1) / 3 = i by omega] at c1
  rw [if_neg (by omega), if_neg (by omega), show (i * 3 + 2) / 3 = i by omega] at c2
  exact ⟨by simpa using c0, by simpa using c1, by simpa using c2⟩
set_option maxRecDepth 100000 in
set_option maxHeartbeats 1000000 in
theorem copyRunC (g n c : Nat) (R F T : Nat → Int) (w : World) (hn : n ≤ 1048576) (h : RSeg w (some ⟨g, 0, none⟩) n R F T) :
    Calls Tryz.prog 69 #[.slice (some ⟨g, 0, none⟩) n c] w fun e w' => ∃ x d, e = .returned (.slice x n d) ∧ Below w.heap.size w w' ∧ RSeg w' x n R F T ∧ (n = 0 ∨ ∃ q ys, x = some ⟨q, 0, none⟩ ∧ q < w'.heap.size ∧ w'.ownsRow w.heap.size 71 3 (.slice (some ⟨q, 0, none⟩) n d) n ys) := by
  obtain ⟨i0, hi, hz0, hz1, hz2⟩ := info_parts Tryz.infoRun
  obtain ⟨a, cap, w', happ, ho, hb, _, hw⟩ := copyRow 32 71 i0 _ 3 24 Tryz.underlying32 hi hz0 hz1 hz2 rfl (by decide) (by omega) g 0 n c (fun j => if j % 3 = 0 then .int .i64 (R (j / 3)) else if j % 3 = 1 then .int .i64 (F (j / 3)) else .int .i64 (T (j / 3))) w hn (fun j hj => by
    obtain ⟨b, off, e, _, c0, c1, c2⟩ := h.at (k := j / 3) (by omega)
    have e1 : g = b := congrArg Addr.block (Option.some.inj e)
    have e2 : 0 = off := congrArg Addr.off (Option.some.inj e)
    rw [← e1, ← e2] at c0 c1 c2
    by_cases m0 : j % 3 = 0
    · rw [if_pos m0]; rw [show 0 + j = 0 + j / 3 * 3 by omega]; exact c0
    · by_cases m1 : j % 3 = 1
      · rw [if_neg m0, if_pos m1]; rw [show 0 + j = 0 + j / 3 * 3 + 1 by omega]; exact c1
      · rw [if_neg m0, if_neg m1]; rw [show 0 + j = 0 + j / 3 * 3 + 2 by omega]; exact c2) (fun j _ => by split; rfl; split <;> rfl)
  have HB := hid hb
  have HR : Hid (RSeg w' a n R F T ∧ (n = 0 ∨ ∃ q ys, a = some ⟨q, 0, none⟩ ∧ q < w'.heap.size ∧ w'.ownsRow w.heap.size 71 3 (.slice (some ⟨q, 0, none⟩) n cap) n ys)) := hid (by
    by_cases h0 : n = 0
    · exact ⟨.inl h0, .inl h0⟩
    · obtain ⟨q, rfl, h1, h2, h3⟩ := hw (by omega)
      exact ⟨rn_of h3, .inr ⟨q, _, rfl, h2, ho⟩⟩)
  clear hb hw h ho
  go_enter Tryz.func69, Tryz.ntmps69
  go_wp2_with (at_builtin; refine wpList_app2 rfl _ _ _ _ rfl happ (by rfl) (by rfl) rfl ?_; clear happ)
  go_ret
  exact ⟨a, cap, rfl, HB.out, HR.out.1, HR.out.2⟩

def lCl (l : List Lf) (A : Nat → Nat) (j : Nat) : Value :=
  if j % 5 = 0 then .slice (some ⟨A (j / 5), 0, none⟩) (gL l (j / 5)).p.length (gL l (j / 5)).p.length else if j % 5 = 1 then .bool (gL l (j / 5)).fl else if j % 5 = 2 then .int .i64 (gL l (j / 5)).r else if j % 5 = 3 then .int .i64 (gL l (j / 5)).q else .string (gL l (j / 5)).v
theorem lCl0 (l : List Lf) (A : Nat → Nat) (i : Nat) : lCl l A (i * 5) = .slice (some ⟨A i, 0, none⟩) (gL l i).p.length (gL l i).p.length ∧ lCl l A (i * 5 + 1) = .bool (gL l i).fl ∧ lCl l A (i * 5 + 2) = .int .i64 (gL l i).r ∧ lCl l A (i * 5 + 3) = .int .i64 (gL l i).q ∧ lCl l A (i * 5 + 4) = .string (gL l i).v := by
  unfold lCl
  refine ⟨?_, ?_, ?_, ?_, ?_⟩
  · rw [if_pos (by omega), show i * 5 / 5 = i by omega]
  · rw [if_neg (by omega), if_pos (by omega), show (i * 5 + 1) / 5 = i by omega]
  · rw [if_neg (by omega), if_neg (by omega), if_pos (by omega), show (i * 5 + 2) / 5 = i by omega]
  · rw [if_neg (by omega), if_neg (by omega), if_neg (by omega), if_pos (by omega), show (i * 5 + 3) / 5 = i by omega]
  · rw [if_neg (by omega), if_neg (by omega), if_neg (by omega), if_neg (by omega), show (i * 5 + 4) / 5 = i by omega]

structure LBl (w : World) (g : Nat) (l : List Lf) (A : Nat → Nat) : Prop where
  g1 : g < w.heap.size
  cel : ∀ j, j < l.length * 5 → w.cell? ⟨g, j, none⟩ = some (lCl l A j)
  a1 : ∀ i, i < l.length → A i < w.heap.size
  str : ∀ i, i < l.length → ∀ t, t < (gL l i).p.length → w.cell? ⟨A i, t, none⟩ = some (.string (gS (gL l i).p t))
theorem LBl.below {w w' : World} {g : Nat} {l : List Lf} {A : Nat → Nat} (h : LBl w g l A) (hb : Below w.heap.size w w') : LBl w' g l A :=
  ⟨Nat.lt_of_lt_of_le h.g1 hb.size, fun j hj => (hb.cell (p := ⟨g, _, none⟩) h.g1).trans (h.cel j hj), fun i hi => Nat.lt_of_lt_of_le (h.a1 i hi) hb.size, fun i hi t ht => (hb.cell (p := ⟨A i, _, none⟩) (h.a1 i hi)).trans (h.str i hi t ht)⟩
set_option maxRecDepth 100000 in
set_option maxHeartbeats 1000000 in
theorem copyLeafC (g c : Nat) (l : List Lf) (A : Nat → Nat) (w : World) (hn : l.length ≤ 1048576) (h : LBl w g l A) :
    Calls Tryz.prog 67 #[.slice (some ⟨g, 0, none⟩) l.length c] w fun e w' => ∃ a cap, e = .returned (.slice a l.length cap) ∧ Below w.heap.size w w' ∧ (0 < l.length → ∃ q, a = some ⟨q, 0, none⟩ ∧ w.heap.size ≤ q ∧ q < w'.heap.size ∧ Wr w' q 69 (l.length * 5) (lCl l A)) := by
  obtain ⟨i0, hi, hz0, hz1, hz2⟩ := info_parts infoLeaf
  obtain ⟨a, cap, w', happ, _, hb, _, hw⟩ := copyRow 31 69 i0 _ 5 64 Tryz.underlying31 hi hz0 hz1 hz2 rfl (by decide) (by omega) g 0 l.length c (lCl l A) w hn (fun j hj => by rw [Nat.zero_add]; exact h.cel j hj) (fun j _ => by unfold lCl; split; rfl; split; rfl; split; rfl; split <;> rfl)
  have HB := hid hb
  have HW := hid hw
  clear hb hw h
  go_enter Tryz.func67, Tryz.ntmps67
  go_wp2_with (at_builtin; refine wpList_app2 rfl _ _ _ _ rfl happ (by rfl) (by rfl) rfl ?_; clear happ)
  go_ret
  exact ⟨a, cap, rfl, HB.out, HW.out⟩
end Go.Proofs.YtdenbicnckkdfaaGreat

namespace Go.Proofs.YtdenbicnckkdfaaGreat
open Go.ChangeShapes Go.WideShapes Go.ChangeAt Go.RowKit Go.Deep
set_option linter.unusedVariables false
set_option linter.unusedSimpArgs false

theorem SNw.bl {w : World} {lo hi g k : Nat} {S : Sx} (h : SNw w lo hi g k S) : ∃ A, LBl w g S.l A := by
  obtain ⟨⟨h1, h1'⟩, _, h4⟩ := h.lm
  have each : ∀ i, i < S.l.length → ∃ q : Nat, w.cell? ⟨g, i * 5, none⟩ = some (.slice (some ⟨q, 0, none⟩) (gL S.l i).p.length (gL S.l i).p.length) ∧ q < hi := fun i hi' => by
    obtain ⟨q, q1, q2, q3, q4, q5⟩ := h4 i hi'
    exact ⟨q, q1, q4⟩
  obtain ⟨A, hA⟩ := choose_lt each
  have hhl := h.hl
  have hls : ∀ i, i < S.l.length → ∃ pa pc, w.cell? ⟨g, i * 5, none⟩ = some (.slice pa (gL S.l i).p.length pc) ∧ SSeg w pa (gL S.l i).p ∧ w.cell? ⟨g, i * 5 + 1, none⟩ = some (.bool (gL S.l i).fl) ∧ w.cell? ⟨g, i * 5 + 2, none⟩ = some (.int .i64 (gL S.l i).r) ∧ w.cell? ⟨g, i * 5 + 3, none⟩ = some (.int .i64 (gL S.l i).q) ∧ w.cell? ⟨g, i * 5 + 4, none⟩ = some (.string (gL S.l i).v) := fun i hi' => by
    rcases h.cap.seg with h0 | ⟨b, off, e, hb, hc⟩
    · omega
    · have e1 : g = b := congrArg Addr.block (Option.some.inj e)
      have e2 : 0 = off := congrArg Addr.off (Option.some.inj e)
      have := hc i hi'
      rw [← e1, ← e2] at this
      simpa using this
  refine ⟨A, by omega, fun j hj => ?_, fun i hi' => by have := (hA i hi').2; omega, fun i hi' t ht => ?_⟩
  · have hi' : j / 5 < S.l.length := by omega
    obtain ⟨pa, pc, c0, _, c1, c2, c3, c4⟩ := hls (j / 5) hi'
    obtain ⟨d0, d1, d2, d3, d4⟩ := lCl0 S.l A (j / 5)
    rcases (show j % 5 = 0 ∨ j % 5 = 1 ∨ j % 5 = 2 ∨ j % 5 = 3 ∨ j % 5 = 4 by omega) with m | m | m | m | m
    · rw [show j = j / 5 * 5 by omega, d0]; exact (hA _ hi').1
    · rw [show j = j / 5 * 5 + 1 by omega, d1]; exact c1
    · rw [show j = j / 5 * 5 + 2 by omega, d2]; exact c2
    · rw [show j = j / 5 * 5 + 3 by omega, d3]; exact c3
    · rw [show j = j / 5 * 5 + 4 by omega, d4]; exact c4
  · obtain ⟨pa, pc, c0, hs, _⟩ := hls i hi'
    rw [(hA i hi').1] at c0
    have e := Option.some.inj c0
    have e0 : some (⟨A i, 0, none⟩ : Addr) = pa := by injection e
    rcases hs with hs | ⟨b, off, e2, hb, hc⟩
    · omega
    · rw [← e0] at e2
      have e3 : A i = b := congrArg Addr.block (Option.some.inj e2)
      have e4 : 0 = off := congrArg Addr.off (Option.some.inj e2)
      have := hc t ht
      rw [← e3, ← e4, Nat.zero_add] at this
      exact this

structure LCp (wr : World) (lo b : Nat) (l : List Lf) (A : Nat → Nat) (P : Nat → Option Addr) (Q G : Nat → Nat) (k : Nat) : Prop where
  b1 : lo ≤ b
  wr' : ∃ C, Wr wr b 69 (l.length * 5) C
  old : ∀ i, k ≤ i → i < l.length → wr.cell? ⟨b, i * 5, none⟩ = some (.slice (some ⟨A i, 0, none⟩) (gL l i).p.length (gL l i).p.length)
  new : ∀ i, i < k → i < l.length → wr.cell? ⟨b, i * 5, none⟩ = some (.slice (P i) (gL l i).p.length (Q i))
  cel : ∀ i, i < l.length → wr.cell? ⟨b, i * 5 + 1, none⟩ = some (.bool (gL l i).fl) ∧ wr.cell? ⟨b, i * 5 + 2, none⟩ = some (.int .i64 (gL l i).r) ∧ wr.cell? ⟨b, i * 5 + 3, none⟩ = some (.int .i64 (gL l i).q) ∧ wr.cell? ⟨b, i * 5 + 4, none⟩ = some (.string (gL l i).v)
  own : ∀ i, i < k → i < l.length → 0 < (gL l i).p.length → P i = some ⟨G i, 0, none⟩ ∧ b < G i ∧ G i < wr.heap.size ∧ Wr wr (G i) 9 (gL l i).p.length (fun t => .string (gS (gL l i).p t))
  sep : ∀ i j, i < k → j < k → i < l.length → j < l.length → 0 < (gL l i).p.length → 0 < (gL l j).p.length → i ≠ j → G i ≠ G j
theorem LCp.step {wr w1 : World} {lo b : Nat} {l : List Lf} {A : Nat → Nat} {P : Nat → Option Addr} {Q G : Nat → Nat} {k : Nat} (h : LCp wr lo b l A P Q G k) (hk : k < l.length) (hb : Below wr.heap.size wr w1) (pa : Option Addr) (pc : Nat) (hn : 0 < (gL l k).p.length → ∃ q, pa = some ⟨q, 0, none⟩ ∧ wr.heap.size ≤ q ∧ q < w1.heap.size ∧ Wr w1 q 9 (gL l k).p.length (fun t => .string (gS (gL l k).p t))) :
    ∃ P' Q' G', LCp (w1.setCell ⟨b, k * 5, none⟩ (.slice pa (gL l k).p.length pc)) lo b l A P' Q' G' (k + 1) := by
  obtain ⟨C, hC⟩ := h.wr'
  have hC1 := hC.same (hb.block b hC.lt)
  have q1 : ∀ j, j ≠ k * 5 → (w1.setCell ⟨b, k * 5, none⟩ (.slice pa (gL l k).p.length pc)).cell? ⟨b, j, none⟩ = wr.cell? ⟨b, j, none⟩ := fun j hj => by
    rw [show (w1.setCell ⟨b, k * 5, none⟩ (.slice pa (gL l k).p.length pc)).cell? ⟨b, j, none⟩ = w1.cell? ⟨b, j, none⟩ by simp [World.cell?_setCell_other, Ne.symm hj]]
    exact hb.cell (p := ⟨b, j, none⟩) hC.lt
  have hq0 : ∃ q, (0 < (gL l k).p.length → pa = some ⟨q, 0, none⟩ ∧ wr.heap.size ≤ q ∧ q < w1.heap.size ∧ Wr w1 q 9 (gL l k).p.length (fun t => .string (gS (gL l k).p t))) := by
    by_cases h0 : 0 < (gL l k).p.length
    · obtain ⟨q, r⟩ := hn h0; exact ⟨q, fun _ => r⟩
    · exact ⟨0, fun h => absurd h h0⟩
  obtain ⟨q, hq⟩ := hq0
  have hbs : b < wr.heap.size := hC.lt
  have hbz := hb.size
  refine ⟨fun i => if i = k then pa else P i, fun i => if i = k then pc else Q i, fun i => if i = k then q else G i, h.b1, ⟨_, hC1.set _ _⟩, fun i h1 h2 => ?_, fun i h1 h2 => ?_, fun i h2 => ?_, fun i h1 h2 h3 => ?_, fun i j h1 h2 h3 h4 h5 h6 h7 => ?_⟩
  · rw [q1 _ (by omega)]; exact h.old i (by omega) h2
  · by_cases e : i = k
    · subst e
      simp only [if_pos]
      exact World.cell?_setCell_same _ _ _ (hC1.cell (i := i * 5) (by omega))
    · simp only [if_neg e]
      rw [q1 _ (by omega)]; exact h.new i (by omega) h2
  · rw [q1 _ (by omega), q1 _ (by omega), q1 _ (by omega), q1 _ (by omega)]; exact h.cel i h2
  · by_cases e : i = k
    · subst e
      simp only [if_pos]
      obtain ⟨e1, e2, e3, e4⟩ := hq h3
      exact ⟨e1, by omega, by simpa [World.setCell] using e3, e4.same (Below.heap_setCell _ _ _ _ (by simp; omega))⟩
    · simp only [if_neg e]
      obtain ⟨e1, e2, e3, e4⟩ := h.own i (by omega) h2 h3
      exact ⟨e1, e2, by simp [World.setCell]; omega, (e4.same (hb.block _ e3)).same (Below.heap_setCell _ _ _ _ (by simp; omega))⟩
  · by_cases e : i = k
    · subst e
      have ej : j ≠ i := Ne.symm h7
      simp only [if_pos, if_neg ej]
      have := (hq h5).2.1
      have := (h.own j (by omega) h4 h6).2.2.1
      omega
    · by_cases e' : j = k
      · subst e'
        simp only [if_pos, if_neg e]
        have := (hq h6).2.1
        have := (h.own i (by omega) h3 h5).2.2.1
        omega
      · simp only [if_neg e, if_neg e']
        exact h.sep i j (by omega) (by omega) h3 h4 h5 h6 h7
theorem LCp.done {wr : World} {lo b : Nat} {l : List Lf} {A : Nat → Nat} {P : Nat → Option Addr} {Q G : Nat → Nat} (h : LCp wr lo b l A P Q G l.length) {lo' hi : Nat} (hh : wr.heap.size ≤ hi) (hl : lo' ≤ lo) : LSeg wr (some ⟨b, 0, none⟩) l ∧ LWy lo' hi b l P G ∧ ∀ k0, LIn wr wr lo' hi b l P Q G k0 0 0 := by
  obtain ⟨C, hC⟩ := h.wr'
  have hbs := hC.lt
  refine ⟨.inr ⟨b, 0, rfl, hC.lt, fun i hi' => ?_⟩, ⟨Nat.le_trans hl h.b1, by omega, fun i hi' h0 => ?_, fun i j h1 h2 h3 h4 h5 => h.sep i j h1 h2 h1 h2 h3 h4 h5⟩, fun k0 => ⟨Btw.refl _ _ _, fun _ _ _ => rfl, ⟨C, hC⟩, fun i hi' => h.new i hi' hi', fun i _ hi' h0 => (h.own i hi' hi' h0).2.2.2.pmk, fun i h1 => by omega, fun i h1 => by omega⟩⟩
  · obtain ⟨c1, c2, c3, c4⟩ := h.cel i hi'
    refine ⟨P i, Q i, by simpa using h.new i hi' hi', ?_, by simpa using c1, by simpa using c2, by simpa using c3, by simpa using c4⟩
    by_cases h0 : 0 < (gL l i).p.length
    · obtain ⟨e1, e2, e3, e4⟩ := h.own i hi' hi' h0
      exact .inr ⟨G i, 0, e1, e3, fun t ht => by simpa using e4.cell ht⟩
    · exact .inl (by omega)
  · obtain ⟨e1, e2, e3, e4⟩ := h.own i hi' hi' h0
    exact ⟨e1, by omega, by have := h.b1; omega, by omega⟩
theorem LCp.same {wr w' : World} {lo b : Nat} {l : List Lf} {A : Nat → Nat} {P : Nat → Option Addr} {Q G : Nat → Nat} {k : Nat} (h : LCp wr lo b l A P Q G k) (hs : wr.heap.size ≤ w'.heap.size) (hq : ∀ q, lo ≤ q → q < wr.heap.size → w'.heap[q]? = wr.heap[q]?) : LCp w' lo b l A P Q G k := by
  obtain ⟨C, hC⟩ := h.wr'
  have eb := hq b h.b1 hC.lt
  have q1 : ∀ j, w'.cell? ⟨b, j, none⟩ = wr.cell? ⟨b, j, none⟩ := fun j => World.cell?_of_block (a := ⟨b, j, none⟩) eb
  refine ⟨h.b1, ⟨C, hC.same eb⟩, fun i h1 h2 => by rw [q1]; exact h.old i h1 h2, fun i h1 h2 => by rw [q1]; exact h.new i h1 h2, fun i h2 => by rw [q1, q1, q1, q1]; exact h.cel i h2, fun i h1 h2 h3 => ?_, h.sep⟩
  obtain ⟨e1, e2, e3, e4⟩ := h.own i h1 h2 h3
  exact ⟨e1, e2, by omega, e4.same (hq _ (by have := h.b1; omega) e3)⟩
theorem LCp.start {w1 : World} {lo b : Nat} {l : List Lf} {A : Nat → Nat} (hb : lo ≤ b) (h : Wr w1 b 69 (l.length * 5) (lCl l A)) : LCp w1 lo b l A (fun _ => none) (fun _ => 0) (fun _ => 0) 0 :=
  ⟨hb, ⟨_, h⟩, fun i _ hi => by rw [h.cell (by omega), (lCl0 l A i).1], fun i h1 => by omega, fun i hi => ⟨by rw [h.cell (by omega), (lCl0 l A i).2.1], by rw [h.cell (by omega), (lCl0 l A i).2.2.1], by rw [h.cell (by omega), (lCl0 l A i).2.2.2.1], by rw [h.cell (by omega), (lCl0 l A i).2.2.2.2]⟩, fun i h1 => by omega, fun i j h1 => by omega⟩
set_option maxRecDepth 100000 in
set_option maxHeartbeats 2000000 in
theorem copyStateC (g k lo hi c d : Nat) (S : Sx) (w : World) (hm : S.Sm) (h : SNw w lo hi g k S) :
    Calls Tryz.prog 40 #[.agg #[.slice (some ⟨g, 0, none⟩) S.l.length c, .slice (some ⟨k, 0, none⟩) S.n d]] w fun e w' => ∃ a c' x d', e = .returned (.agg #[.slice a S.l.length c', .slice x S.n d']) ∧ SOw w' w.heap.size w'.heap.size a x d' S ∧ Below w.heap.size w w' := by
  obtain ⟨A, hA⟩ := h.bl
  obtain ⟨W, hW⟩ : ∃ W, (w.alloc (.cells #[.slice (some ⟨g, 0, none⟩) S.l.length c, .slice (some ⟨k, 0, none⟩) S.n d] 36)).alloc (.cells #[.slice none 0 0, .slice none 0 0] 36) = W := ⟨_, rfl⟩
  have b0 : Below w.heap.size w W := by rw [← hW]; exact below2 _ _ _
  have B0 : Bx2 W w.heap.size (.slice (some ⟨g, 0, none⟩) S.l.length c) (.slice (some ⟨k, 0, none⟩) S.n d) := by rw [← hW]; exact (Bx2.made _ _ _ _).below ((Below.refl _ _).alloc (Nat.le_refl _) _) (by simp)
  have F0 : Bx2 W (w.heap.size + 1) (.slice none 0 0) (.slice none 0 0) := by
    rw [← hW]
    have := Bx2.made (w.alloc (.cells #[.slice (some ⟨g, 0, none⟩) S.l.length c, .slice (some ⟨k, 0, none⟩) S.n d] 36)) (.slice none 0 0) (.slice none 0 0) 36
    simpa using this
  have HF := hid F0
  have k0 := B0.c0
  have k1 := B0.c1
  have HX := hid B0
  have HB0 := hid b0
  have HA := hid (hA.below b0)
  have HRN := hid (h.rn.below b0)
  have HL := hid (copyLeafC g c S.l A W hm.l1 (hA.below b0))
  clear h b0 B0 F0 hA
  go_enter Tryz.func40, Tryz.ntmps40
  go_wp2_with fail
  try rw [hW]
  clear hW
  refine HL.out.mono ?_
  rintro e w1 ⟨a1, c1, rfl, b1, hq1⟩
  have HI1 : Hid (Below W.heap.size W w1 ∧ (0 < S.l.length → ∃ b P Q G, a1 = some ⟨b, 0, none⟩ ∧ LCp w1 W.heap.size b S.l A P Q G 0)) := hid ⟨b1, fun h0 => by
    obtain ⟨q, e1, e2, e3, e4⟩ := hq1 h0
    exact ⟨q, _, _, _, e1, LCp.start e2 e4⟩⟩
  have hlen := hm.l1
  have HP1 := hid hm.p1
  clear b1 hq1 HL k0 k1
  go_wp2_with fail
  go_loopw [10] (fun i wr => ∃ j : Nat, j ≤ S.l.length ∧ i = .int .i64 (j : Int) ∧ Hid (Below W.heap.size W wr ∧ (0 < S.l.length → ∃ b P Q G, a1 = some ⟨b, 0, none⟩ ∧ LCp wr W.heap.size b S.l A P Q G j))) (fun i _ => S.l.length - (intOf i).toNat)
  case atStart => exact ⟨0, Nat.zero_le _, rfl, HI1⟩
  case round =>
    clear HI1
    obtain ⟨j, hj, rfl, HI⟩ := hrel
    by_cases hlt : j < S.l.length
    · obtain ⟨b, P, Q, G, rfl, hcp⟩ := HI.out.2 (by omega)
      have HCP := hid hcp
      have i1 : (0 : Int) ≤ (j : Int) := Int.natCast_nonneg _
      have i2 : (j : Int) < (S.l.length : Int) := by omega
      have c0 := hcp.old j (Nat.le_refl _) hlt
      have hBl := HA.out.below HI.out.1
      have HC := hid (copyStrC (A j) 0 (gL S.l j).p.length (gL S.l j).p.length (gL S.l j).p wr rfl (HP1.out j) (fun t ht => by rw [Nat.zero_add]; exact hBl.str j hlt t ht))
      have HST : Hid (∀ w1 pa pc, Below wr.heap.size wr w1 → (0 < (gL S.l j).p.length → ∃ q, pa = some ⟨q, 0, none⟩ ∧ wr.heap.size ≤ q ∧ q < w1.heap.size ∧ Wr w1 q 9 (gL S.l j).p.length (fun t => .string (gS (gL S.l j).p t))) → (∃ u, w1.cell? ⟨b, j * 5, none⟩ = some u) ∧ (w1.frozen? ⟨b, j * 5, none⟩ = false) ∧ Below W.heap.size W (w1.setCell ⟨b, j * 5, none⟩ (.slice pa (gL S.l j).p.length pc)) ∧ (0 < S.l.length → ∃ b' P Q G, some (⟨b, 0, none⟩ : Addr) = some ⟨b', 0, none⟩ ∧ LCp (w1.setCell ⟨b, j * 5, none⟩ (.slice pa (gL S.l j).p.length pc)) W.heap.size b' S.l A P Q G (j + 1))) := hid (fun w1 pa pc hb hn => by
        obtain ⟨C, hC⟩ := HCP.out.wr'
        have hC1 := hC.same (hb.block b hC.lt)
        obtain ⟨P', Q', G', h'⟩ := HCP.out.step hlt hb pa pc hn
        exact ⟨⟨_, hC1.cell (i := j * 5) (by omega)⟩, hC1.frozen _, (HI.out.1.trans (hb.mono HI.out.1.size)).setCell (by have := HCP.out.b1; simp; omega) _, fun _ => ⟨b, P', Q', G', rfl, h'⟩⟩)
      obtain ⟨np, hnp⟩ : ∃ np, (gL S.l j).p.length = np := ⟨_, rfl⟩
      obtain ⟨pj, hpj⟩ : ∃ pj, (gL S.l j).p = pj := ⟨_, rfl⟩
      rw [hnp, hpj] at HC HST
      rw [hnp] at c0
      clear hnp hpj hcp hBl
      go_wp2_with fail
      refine HC.out.mono ?_
      rintro e w2 ⟨pa, pc, rfl, b2, hn2⟩
      obtain ⟨⟨u, hu⟩, hf, hB2, hI2⟩ := HST.out w2 pa pc b2 hn2
      have HI2 := hid (And.intro hB2 hI2)
      clear c0 b2 hn2 hB2 hI2 HC HST
      go_wp2_with fail
      go_roundw
      case rel => exact ⟨j + 1, hlt, by go_num, HI2⟩
      case measure => simp [intOf]; omega
    · obtain rfl : j = S.l.length := by omega
      have X := HX.out.below HI.out.1 HX.out.lt
      have k0 := X.c0
      have k1 := X.c1
      have HR := hid (copyRunC k S.n d S.R S.F S.T wr hm.n1 (HRN.out.below HI.out.1))
      clear X
      go_wp2_with fail
      refine HR.out.mono ?_
      rintro e w3 ⟨x, d', rfl, b3, hrs, hro⟩
      have F3 := (HF.out.below HI.out.1 HF.out.lt).below b3 (Nat.lt_of_lt_of_le HF.out.lt HI.out.1.size)
      have f0 := F3.c0
      have f1 := F3.c1
      have ff := F3.f
      have HRS := hid hrs
      have HRO := hid hro
      have HB3 := hid b3
      have hzW : w.heap.size + 1 < W.heap.size := HF.out.lt
      have hzr : W.heap.size ≤ wr.heap.size := HI.out.1.size
      clear k0 k1 hrs hro b3 F3 HR
      go_wp2_with fail
      have hz3 : wr.heap.size ≤ w3.heap.size := HB3.out.size
      have hsame : ∀ q, W.heap.size ≤ q → q < wr.heap.size → ((w3.setCell ⟨w.heap.size + 1, 0, none⟩ (.slice a1 S.l.length c1)).setCell ⟨w.heap.size + 1, 1, none⟩ (.slice x S.n d')).heap[q]? = wr.heap[q]? := fun q h1 h2 => by
        rw [Below.heap_setCell _ _ _ _ (by simp; omega), Below.heap_setCell _ _ _ _ (by simp; omega)]; exact HB3.out.block q h2
      have hsz : ((w3.setCell ⟨w.heap.size + 1, 0, none⟩ (.slice a1 S.l.length c1)).setCell ⟨w.heap.size + 1, 1, none⟩ (.slice x S.n d')).heap.size = w3.heap.size := by simp [World.setCell]
      have hlv : LSeg ((w3.setCell ⟨w.heap.size + 1, 0, none⟩ (.slice a1 S.l.length c1)).setCell ⟨w.heap.size + 1, 1, none⟩ (.slice x S.n d')) a1 S.l ∧ (S.l.length = 0 ∨ ∃ b P Q G, a1 = some ⟨b, 0, none⟩ ∧ LWy w.heap.size ((w3.setCell ⟨w.heap.size + 1, 0, none⟩ (.slice a1 S.l.length c1)).setCell ⟨w.heap.size + 1, 1, none⟩ (.slice x S.n d')).heap.size b S.l P G ∧ ∀ k0, LIn ((w3.setCell ⟨w.heap.size + 1, 0, none⟩ (.slice a1 S.l.length c1)).setCell ⟨w.heap.size + 1, 1, none⟩ (.slice x S.n d')) ((w3.setCell ⟨w.heap.size + 1, 0, none⟩ (.slice a1 S.l.length c1)).setCell ⟨w.heap.size + 1, 1, none⟩ (.slice x S.n d')) w.heap.size ((w3.setCell ⟨w.heap.size + 1, 0, none⟩ (.slice a1 S.l.length c1)).setCell ⟨w.heap.size + 1, 1, none⟩ (.slice x S.n d')).heap.size b S.l P Q G k0 0 0) := by
        by_cases h0 : 0 < S.l.length
        · obtain ⟨b, P, Q, G, rfl, hcp⟩ := HI.out.2 h0
          obtain ⟨d1, d2, d3⟩ := (hcp.same (by omega) hsame).done (lo' := w.heap.size) (Nat.le_refl _) (by omega)
          exact ⟨d1, .inr ⟨b, P, Q, G, rfl, d2, d3⟩⟩
        · exact ⟨.inl (by omega), .inl (by omega)⟩
      refine bodyPost_ret (v := .agg #[.slice a1 S.l.length c1, .slice x S.n d']) (by simp [results, Tryz.results40, go_sem, f0, f1]) rfl ⟨a1, c1, x, d', rfl, ⟨hlv.1, ?_, hlv.2, ?_, by omega, Nat.le_refl _⟩, ?_⟩
      · rcases HRO.out with h0 | ⟨q, ys, rfl, hq, ho⟩
        · exact .inl h0
        · have hb := (ho.lt q rfl).1
          exact (HRS.out.set _ _ (fun y hy => by injection hy with hy; subst hy; simp; omega)).set _ _ (fun y hy => by injection hy with hy; subst hy; simp; omega)
      · rcases HRO.out with h0 | ⟨q, ys, rfl, hq, ho⟩
        · exact .inl h0
        · have hb := (ho.lt q rfl).1
          exact .inr ⟨q, ys, rfl, by omega, own_weak5 (owns_set (owns_set ho _ _ (by simp; omega)) _ _ (by simp; omega)) (by omega)⟩
      · exact (((HB0.out.trans (HI.out.1.mono HB0.out.size)).trans (HB3.out.mono (by have := HB0.out.size; omega))).setCell (by simp) _).setCell (by simp) _
end Go.Proofs.YtdenbicnckkdfaaGreat
