import Derived.Test.YtakmpmhjcngbbaaGreatDoorMgg31
import Derived.Test.YtakmpmhjcngbbaaGreatDoorMgg17
import Derived.Test.YtakmpmhjcngbbaaGreatDoorMgg26
set_option linter.unusedVariables false
set_option linter.unusedSimpArgs false
set_option maxRecDepth 100000
set_option maxHeartbeats 40000000
namespace Go.Proofs.YtakmpmhjcngbbaaGreatDoor
open Go.ChangeShapes Go.WideShapes Go.ChangeAt Go.RowKit Go.Deep
structure LC (w : World) (lo : Nat) (v : Value) (l : List Lf) (P Q : Nat → Nat) : Prop where
  row : w.ownsRow lo 89 5 v l.length ((List.range (l.length * 5)).map (lCp l P Q))
  pt : ∀ i, i < l.length → lo ≤ P i ∧ P i < w.heap.size ∧ some (P i) ≠ v.ownBlock ∧ Wr w (P i) 9 (gL l i).p.length (fun t => .string (gS (gL l i).p t)) ∧ (gL l i).p.length ≤ Q i ∧ Q i ≤ 9223372036854775807
def Sep (P : Nat → Nat) (n : Nat) : Prop := ∀ i j, i < n → j < n → i ≠ j → P i ≠ P j
def LB (w : World) (lo : Nat) (v : Value) (l : List Lf) : Prop := ∃ P Q, LC w lo v l P Q ∧ Sep P l.length
section
variable {w w' : World} {lo : Nat} {v : Value} {l : List Lf} {P Q : Nat → Nat}
theorem LC.nil (w : World) (lo : Nat) (P Q : Nat → Nat) : LC w lo (.slice none 0 0) [] P Q := ⟨⟨rfl, .inl ⟨rfl, rfl⟩⟩, fun i hi => by simp at hi⟩
theorem LC.move (h : LC w lo v l P Q) (hz : w.heap.size ≤ w'.heap.size) (hs : ∀ q, lo ≤ q → q < w.heap.size → w'.heap[q]? = w.heap[q]?) : LC w' lo v l P Q :=
  ⟨own_at5 h.row (fun g hg => hs g (h.row.lt g hg).1 (h.row.lt g hg).2), fun i hi => by
    obtain ⟨e1, e2, e3, e4⟩ := h.pt i hi
    exact ⟨e1, Nat.lt_of_lt_of_le e2 hz, e3, e4.1.same (hs _ e1 e2), e4.2⟩⟩
theorem LC.below (h : LC w lo v l P Q) (hb : Below w.heap.size w w') : LC w' lo v l P Q := h.move hb.size (fun q _ h2 => hb.block q h2)
theorem LB.move (h : LB w lo v l) (hz : w.heap.size ≤ w'.heap.size) (hs : ∀ q, lo ≤ q → q < w.heap.size → w'.heap[q]? = w.heap[q]?) : LB w' lo v l := by
  obtain ⟨P, Q, h1, h2⟩ := h; exact ⟨P, Q, h1.move hz hs, h2⟩
theorem LB.below (h : LB w lo v l) (hb : Below w.heap.size w w') : LB w' lo v l := h.move hb.size (fun q _ h2 => hb.block q h2)
theorem LB.lt (h : LB w lo v l) : ∀ g, v.ownBlock = some g → lo ≤ g ∧ g < w.heap.size := by
  obtain ⟨P, Q, h1, h2⟩ := h; exact fun g hg => h1.row.lt g hg
theorem LB.nil (w : World) (lo : Nat) : LB w lo (.slice none 0 0) [] := ⟨fun _ => 0, fun _ => 0, LC.nil w lo _ _, fun i j hi => by simp at hi⟩
end
theorem LB.form {w : World} {lo : Nat} {v : Value} {l : List Lf} (h : LB w lo v l) : ∃ a c, v = .slice a l.length c := by
  obtain ⟨P, Q, h1, _⟩ := h
  rcases h1.row.2 with ⟨e, e0⟩ | ⟨g, cap, cur, e, _⟩
  · exact ⟨none, 0, by rw [e, e0]⟩
  · exact ⟨_, cap, e⟩
theorem gL_pre (l : List Lf) (y : Lf) {i : Nat} (hi : i < l.length) : gL (l ++ [y]) i = gL l i := by simp [gL, List.getD, List.getElem?_append_left hi]
theorem gL_end (l : List Lf) (y : Lf) : gL (l ++ [y]) l.length = y := by simp [gL, List.getD]
theorem lCp_end (l : List Lf) (y : Lf) (P Q : Nat → Nat) (p q : Nat) : (List.range ((l.length + 1) * 5)).map (lCp (l ++ [y]) (fun i => if i = l.length then p else P i) (fun i => if i = l.length then q else Q i)) = (List.range (l.length * 5)).map (lCp l P Q) ++ [.slice (some ⟨p, 0, none⟩) y.p.length q, .bool y.fl, .int .i64 y.r, .int .i64 y.q, .string y.v] := by
  rw [lCp_snoc, gL_end]
  congr 1
  refine List.map_congr_left fun j hj => ?_
  have hj' : j < l.length * 5 := by simpa using hj
  unfold lCp
  rw [gL_pre l y (show j / 5 < l.length by omega)]
theorem LC.app {w w1 : World} {lo : Nat} {v : Value} {l : List Lf} {P Q : Nat → Nat} (h : LC w lo v l P Q) (hb : Below w.heap.size w w1) (hlo : lo ≤ w.heap.size) (hk : l.length ≤ 1048576) (y : Lf) (p pc : Nat) (hp1 : lo ≤ p) (hp2 : p < w1.heap.size) (hp3 : some p ≠ v.ownBlock) (hw : Wr w1 p 9 y.p.length (fun t => .string (gS y.p t))) (hpc : y.p.length ≤ pc ∧ pc ≤ 9223372036854775807) :
    ∃ q' cap' w3, (Builtin.append_ #[23, 23] 23 #[v, .slice (some ⟨w1.heap.size, 0, none⟩) 1 1]).run Tryz.prog (w1.alloc (.cells #[.slice (some ⟨p, 0, none⟩) y.p.length pc, .bool y.fl, .int .i64 y.r, .int .i64 y.q, .string y.v] 89)) = .ok (.slice (some ⟨q', 0, none⟩) (l.length + 1) cap') w3 ∧
      LC w3 lo (.slice (some ⟨q', 0, none⟩) (l.length + 1) cap') (l ++ [y]) (fun i => if i = l.length then p else P i) (fun i => if i = l.length then pc else Q i) ∧ Gr w1 w3 v (.slice (some ⟨q', 0, none⟩) (l.length + 1) cap') := by
  obtain ⟨i0, hi, hz0, hz1, hz2⟩ := info_parts infoLeaf
  have h1 := h.below hb
  have b2 : Below w1.heap.size w1 (w1.alloc (.cells #[.slice (some ⟨p, 0, none⟩) y.p.length pc, .bool y.fl, .int .i64 y.r, .int .i64 y.q, .string y.v] 89)) := (Below.refl _ _).alloc (Nat.le_refl _) _
  have h2 := h1.below b2
  have hw2 := hw.same (b2.block p hp2)
  have hn5 := cell_five_new w1 (.slice (some ⟨p, 0, none⟩) y.p.length pc) (.bool y.fl) (.int .i64 y.r) (.int .i64 y.q) (.string y.v) 89
  obtain ⟨W2, hW2⟩ : ∃ W2, w1.alloc (.cells #[.slice (some ⟨p, 0, none⟩) y.p.length pc, .bool y.fl, .int .i64 y.r, .int .i64 y.q, .string y.v] 89) = W2 := ⟨_, rfl⟩
  rw [hW2] at h2 hw2 hn5 b2 ⊢
  have hz : W2.heap.size = w1.heap.size + 1 := by rw [← hW2]; simp
  have hsz1 := hb.size
  obtain ⟨v', w3, hr, g2, g3, g4, g5⟩ := run_append_own_at (P := Tryz.prog) W2 lo 23 23 89 i0 _ 5 64 Tryz.underlying23 hi hz0 hz1 hz2 rfl (by decide) v l.length _ h2.row ⟨w1.heap.size, 0, none⟩ 1 1 [.slice (some ⟨p, 0, none⟩) y.p.length pc, .bool y.fl, .int .i64 y.r, .int .i64 y.q, .string y.v] rfl hn5 (fun u hu => by
    simp only [List.mem_cons, List.not_mem_nil, or_false] at hu
    rcases hu with e | e | e | e | e <;> rw [e] <;> rfl) (by unfold maxLen; omega) (by omega) (by omega)
  rcases g2.2 with ⟨hv, h0⟩ | ⟨q', cap', cur, hv, r⟩
  · omega
  rw [hv] at hr g2 g5
  have hqq : some q' = v.ownBlock ∨ q' = W2.heap.size := by
    rcases g5 with g5 | g5
    · exact .inl (by simpa [Value.ownBlock] using g5)
    · exact .inr (by simpa [Value.ownBlock] using g5)
  have hs3 := g3.size
  have gr : Gr w1 w3 v (.slice (some ⟨q', 0, none⟩) (l.length + 1) cap') := by
    refine (Gr.of_below (b := v) b2).trans ⟨g3, ?_⟩
    rcases hqq with e | e
    · exact .inl e
    · exact .inr ⟨q', rfl, by omega⟩
  refine ⟨q', cap', w3, hr, ⟨?_, fun i hi => ?_⟩, gr⟩
  · rw [List.length_append, List.length_singleton, lCp_end]; exact g2
  · have hown : ∀ b, some b ≠ v.ownBlock → b < W2.heap.size → some b ≠ (Value.slice (some ⟨q', 0, none⟩) (l.length + 1) cap').ownBlock := fun b hb1 hb2 e => by
      have e : b = q' := by simpa [Value.ownBlock] using e
      rcases hqq with e2 | e2
      · exact hb1 (by rw [e]; exact e2)
      · omega
    by_cases e : i = l.length
    · subst e
      simp only [if_pos]
      rw [gL_end]
      exact ⟨hp1, by omega, hown p hp3 (by omega), hw2.same (g3.block p (by omega) hp3), hpc⟩
    · have hi' : i < l.length := by simp at hi; omega
      simp only [if_neg e]
      rw [gL_pre l y hi']
      obtain ⟨e1, e2, e3, e4⟩ := h2.pt i hi'
      exact ⟨e1, by omega, hown _ e3 e2, e4.1.same (g3.block _ e2 e3), e4.2⟩
theorem Sep.app {P : Nat → Nat} {n p : Nat} (h : Sep P n) (hp : ∀ i, i < n → P i ≠ p) : Sep (fun i => if i = n then p else P i) (n + 1) := by
  intro i j hi hj hne
  dsimp only
  by_cases e : i = n
  · rw [if_pos e, if_neg (by omega)]; exact fun e2 => hp j (by omega) e2.symm
  · rw [if_neg e]
    by_cases e2 : j = n
    · rw [if_pos e2]; exact hp i (by omega)
    · rw [if_neg e2]; exact h i j (by omega) (by omega) hne
theorem LB.app {w w1 : World} {lo : Nat} {v : Value} {l : List Lf} (h : LB w lo v l) (hb : Below w.heap.size w w1) (hlo : lo ≤ w.heap.size) (hk : l.length ≤ 1048576) (y : Lf) (p pc : Nat) (hp1 : w.heap.size ≤ p) (hp2 : p < w1.heap.size) (hw : Wr w1 p 9 y.p.length (fun t => .string (gS y.p t))) (hpc : y.p.length ≤ pc ∧ pc ≤ 9223372036854775807) :
    ∃ q' cap' w3, (Builtin.append_ #[23, 23] 23 #[v, .slice (some ⟨w1.heap.size, 0, none⟩) 1 1]).run Tryz.prog (w1.alloc (.cells #[.slice (some ⟨p, 0, none⟩) y.p.length pc, .bool y.fl, .int .i64 y.r, .int .i64 y.q, .string y.v] 89)) = .ok (.slice (some ⟨q', 0, none⟩) (l.length + 1) cap') w3 ∧
      LB w3 lo (.slice (some ⟨q', 0, none⟩) (l.length + 1) cap') (l ++ [y]) ∧ Gr w1 w3 v (.slice (some ⟨q', 0, none⟩) (l.length + 1) cap') := by
  obtain ⟨P, Q, h1, h2⟩ := h
  obtain ⟨q', cap', w3, e1, e2, e3⟩ := h1.app hb hlo hk y p pc (by omega) hp2 (fun e => by have := (h1.row.lt p e.symm).2; omega) hw hpc
  exact ⟨q', cap', w3, e1, ⟨_, _, e2, by rw [List.length_append, List.length_singleton]; exact h2.app (fun i hi => by have := (h1.pt i hi).2.1; omega)⟩, e3⟩
def PWay (w : World) (vw : Value) (p : List ByteArray) : Prop := (vw = .slice none 0 0 ∧ p = []) ∨ ∃ g c, vw = .slice (some ⟨g, 0, none⟩) p.length c ∧ g < w.heap.size ∧ ∀ t, t < p.length → w.cell? ⟨g, t, none⟩ = some (.string (gS p t))
theorem PWay.move {w w' : World} {vw : Value} {p : List ByteArray} (h : PWay w vw p) (hz : w.heap.size ≤ w'.heap.size) (hs : ∀ g, vw.ownBlock = some g → w'.heap[g]? = w.heap[g]?) : PWay w' vw p := by
  rcases h with h | ⟨g, c, rfl, h1, h2⟩
  · exact .inl h
  · exact .inr ⟨g, c, rfl, by omega, fun t ht => (World.cell?_of_block (a := ⟨g, t, none⟩) (hs g rfl)).trans (h2 t ht)⟩
theorem PWay.lt {w : World} {vw : Value} {p : List ByteArray} (h : PWay w vw p) : ∀ g, vw.ownBlock = some g → g < w.heap.size := by
  rcases h with ⟨rfl, _⟩ | ⟨g, c, rfl, h1, h2⟩
  · intro g e; cases e
  · intro g' e; have e : g = g' := by simpa [Value.ownBlock] using e
    omega
theorem PWay.below {w w' : World} {vw : Value} {p : List ByteArray} (h : PWay w vw p) (hb : Below w.heap.size w w') : PWay w' vw p := h.move hb.size (fun g hg => hb.block g (h.lt g hg))
def sRow (p : List ByteArray) : List Value := (List.range (p.length * 1)).map fun t => .string (gS p t)
theorem gS_pre (p : List ByteArray) (s : ByteArray) {i : Nat} (hi : i < p.length) : gS (p ++ [s]) i = gS p i := by simp [gS, List.getD, List.getElem?_append_left hi]
theorem gS_end (p : List ByteArray) (s : ByteArray) : gS (p ++ [s]) p.length = s := by simp [gS, List.getD]
theorem sRow_snoc (p : List ByteArray) (s : ByteArray) : sRow (p ++ [s]) = sRow p ++ [.string s] := by
  unfold sRow
  rw [Nat.mul_one, Nat.mul_one, List.length_append, List.length_singleton, List.range_succ, List.map_append, List.map_singleton, gS_end]
  congr 1
  refine List.map_congr_left fun j hj => ?_
  rw [gS_pre p s (by simpa using hj)]
theorem cloneS (g m c : Nat) (p : List ByteArray) (w : World) (hp : p.length = m) (hm : m ≤ 1048576) (hg : g < w.heap.size) (h : ∀ t, t < m → w.cell? ⟨g, t, none⟩ = some (.string (gS p t))) :
    Calls Tryz.prog 53 #[.slice (some ⟨g, 0, none⟩) m c] w fun e w' => ∃ q cap, e = .returned (.slice (some ⟨q, 0, none⟩) m cap) ∧ Below w.heap.size w w' ∧ w'.ownsRow w.heap.size 9 1 (.slice (some ⟨q, 0, none⟩) m cap) m (sRow p) := by
  obtain ⟨i0, hi, hz0, hz1, hz2⟩ := info_parts infoStr
  have b0 : Below w.heap.size w (w.alloc (.cells #[] 9)) := (Below.refl _ _).alloc (Nat.le_refl _) _
  have ho : (w.alloc (.cells #[] 9)).ownsRow w.heap.size 9 1 (.slice (some ⟨w.heap.size, 0, none⟩) 0 0) 0 [] := by
    have := World.ownsRow_lit (base := w.heap.size) (e := 9) (size := 1) w #[] 0 (Nat.le_refl _) (by unfold maxLen; omega) rfl
    simpa using this
  obtain ⟨q, cap, w', happ, hw, hgr, hq⟩ := copyRowE 41 9 i0 _ 1 16 Tryz.underlying41 hi hz0 hz1 hz2 rfl (by decide) (by omega) w.heap.size g 0 m c (fun t => .string (gS p t)) (w.alloc (.cells #[] 9)) w.heap.size hm ho (by simp) (fun j hj => by rw [Nat.zero_add]; exact (b0.cell (p := ⟨g, j, none⟩) hg).trans (h j (by omega))) (fun _ _ => rfl)
  have HB : Hid (Below w.heap.size w w') := hid (b0.grown hgr b0.size (fun k e => by injection e with e; omega))
  have HW : Hid (w'.ownsRow w.heap.size 9 1 (.slice (some ⟨q, 0, none⟩) m cap) m (sRow p)) := hid (by unfold sRow; rw [hp]; exact hw)
  have he : ∀ w : World, (binOp .eql 41 (.slice (some ⟨g, 0, none⟩) m c) (.slice none 0 0)).run Tryz.prog w = .ok (.bool false) w := fun _ => rfl
  clear hw hgr hq h ho b0
  go_enter Tryz.func53, Tryz.ntmps53
  go_wp2_with (at_builtin; refine wpList_app2 rfl _ _ _ _ rfl happ (by rfl) (by rfl) rfl ?_; clear happ)
  go_ret
  exact ⟨q, cap, rfl, HB.out, HW.out⟩
theorem cloneN (w : World) : Calls Tryz.prog 53 #[.slice none 0 0] w fun e w' => e = .returned (.slice none 0 0) ∧ w' = w := by
  have he : ∀ w : World, (binOp .eql 41 (.slice none 0 0) (.slice none 0 0)).run Tryz.prog w = .ok (.bool true) w := fun _ => rfl
  go_enter Tryz.func53, Tryz.ntmps53
  go_wp2_with fail
  go_ret
  exact ⟨rfl, rfl⟩
theorem cloneW (vw : Value) (p : List ByteArray) (w : World) (hp : p.length ≤ 1048576) (h : PWay w vw p) :
    Calls Tryz.prog 53 #[vw] w fun e w' => ∃ v, e = .returned v ∧ Below w.heap.size w w' ∧ w'.ownsRow w.heap.size 9 1 v p.length (sRow p) := by
  rcases h with ⟨rfl, rfl⟩ | ⟨g, c, rfl, h1, h2⟩
  · refine (cloneN w).mono ?_
    rintro e w' ⟨rfl, rfl⟩
    exact ⟨_, rfl, Below.refl _ _, ⟨rfl, .inl ⟨rfl, rfl⟩⟩⟩
  · refine (cloneS g p.length c p w rfl hp h1 h2).mono ?_
    rintro e w' ⟨q, cap, rfl, h3, h4⟩
    exact ⟨_, rfl, h3, h4⟩
theorem pthApp {w : World} {lo : Nat} {v : Value} {p : List ByteArray} (h : w.ownsRow lo 9 1 v p.length (sRow p)) (hlo : lo ≤ w.heap.size) (hp : p.length ≤ 1048576) (s : ByteArray) (b : Nat) (hb : w.cell? ⟨b, 0, none⟩ = some (.string s)) :
    ∃ q cap w3, (Builtin.append_ #[41, 41] 41 #[v, .slice (some ⟨b, 0, none⟩) 1 1]).run Tryz.prog w = .ok (.slice (some ⟨q, 0, none⟩) (p.length + 1) cap) w3 ∧ w3.ownsRow lo 9 1 (.slice (some ⟨q, 0, none⟩) (p.length + 1) cap) (p.length + 1) (sRow (p ++ [s])) ∧ w.grownBy w3 v.ownBlock ∧ lo ≤ q := by
  obtain ⟨i0, hi, hz0, hz1, hz2⟩ := info_parts infoStr
  obtain ⟨v', w3, hr, g2, g3, g4, g5⟩ := run_append_own_at (P := Tryz.prog) w lo 41 41 9 i0 _ 1 16 Tryz.underlying41 hi hz0 hz1 hz2 rfl (by decide) v p.length _ h ⟨b, 0, none⟩ 1 1 [.string s] rfl (fun j u hj => by
    match j, hj with
    | 0, hj => simp at hj; rw [← hj, addr_addP]; exact hb
    | j + 1, hj => simp at hj) (fun u hu => by
    simp only [List.mem_cons, List.not_mem_nil, or_false] at hu
    rw [hu]; rfl) (by unfold maxLen; omega) (by omega) (by omega)
  rcases g2.2 with ⟨hv, h0⟩ | ⟨q', cap', cur, hv, r⟩
  · omega
  rw [hv] at hr g2
  exact ⟨q', cap', w3, hr, by rw [sRow_snoc]; exact g2, g3, (g2.lt q' rfl).1⟩
theorem own_way {w : World} {lo q m cap : Nat} {p : List ByteArray} (h : w.ownsRow lo 9 1 (.slice (some ⟨q, 0, none⟩) m cap) m (sRow p)) (hp : p.length = m) : PWay w (.slice (some ⟨q, 0, none⟩) m cap) p ∧ Wr w q 9 m (fun t => .string (gS p t)) := by
  unfold sRow at h
  rw [hp] at h
  have hw := own_wrF h
  rw [Nat.mul_one] at hw
  exact ⟨.inr ⟨q, cap, by rw [hp], hw.lt, fun t ht => hw.cell (by omega)⟩, hw⟩
end Go.Proofs.YtakmpmhjcngbbaaGreatDoor
namespace Go.Proofs.YtakmpmhjcngbbaaGreatDoor
open Go.ChangeShapes Go.WideShapes Go.ChangeAt Go.RowKit
section
variable {R F T : Nat → Int} {n : Nat} {la : List Lf} {R' F' T' : Nat → Int} {n' : Nat} {lb : List Lf}
end
section
variable {fa fb : Dt → Option ByteArray} {hb : Dt → Bool} {f : Dt → Option ByteArray} {ds : List Dt} {d : Dt} {v : ByteArray}
end
noncomputable def cW (J : List Lf) (z : List Ky) : Nat := (J.filter (fun x => yes (z <+: Way x))).length
end Go.Proofs.YtakmpmhjcngbbaaGreatDoor
