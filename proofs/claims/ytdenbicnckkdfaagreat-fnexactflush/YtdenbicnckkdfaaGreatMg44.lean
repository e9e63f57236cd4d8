import Derived.Test.YtdenbicnckkdfaaGreatMg43
namespace Go.Proofs.YtdenbicnckkdfaaGreat
open Go.ChangeShapes Go.WideShapes Go.ChangeAt Go.RowKit Go.Deep
set_option linter.unusedVariables false
set_option linter.unusedSimpArgs false

theorem own_wrF {w : World} {B g n cap size : Nat} {e : TypeId} {C : Nat → Value} (h : w.ownsRow B e size (.slice (some ⟨g, 0, none⟩) n cap) n ((List.range (n * size)).map C)) : Wr w g e (n * size) C := by
  rcases h.2 with ⟨h0, _⟩ | ⟨g', cap', cur, hv, hbase, hb, h1, h2, h3, h4⟩
  · cases h0
  · have eg : g = g' := by injection hv with e1 _ _; exact congrArg Addr.block (Option.some.inj e1)
    rw [← eg] at hb
    refine ⟨cur, hb, ?_, fun j hj => ?_⟩
    · have := congrArg List.length h4
      simp at this
      omega
    · have e1 : (cur.toList.take (n * size))[j]? = ((List.range (n * size)).map C)[j]? := by rw [h4]
      rw [List.getElem?_take_of_lt hj] at e1
      rw [← Array.getElem?_toList, e1]
      simp [List.getElem?_range hj]
set_option maxRecDepth 100000 in

theorem copyRowE (t e : TypeId) (i : TypeInfo) (z : Value) (size bytes : Nat) (ht : Tryz.prog.underlying t = some (.slice e)) (hi : Tryz.prog.info? e = some i) (hz : i.zero = some z) (hsize : i.size = size) (hby : i.bytes = bytes) (hzs : z.cells.size = size) (hsz : 0 < size) (hb2 : bytes ≤ 64) (q g off m c : Nat) (C : Nat → Value) (w : World) (B : Nat) (hm : m ≤ 1048576) (ho : w.ownsRow B e size (.slice (some ⟨q, 0, none⟩) 0 0) 0 []) (hB : B ≤ w.heap.size) (hC : ∀ j, j < m * size → w.cell? ⟨g, off + j, none⟩ = some (C j)) (h1 : ∀ j, j < m * size → (C j).oneCell' = true) :
    ∃ q' cap w', (Builtin.append_ #[t, t] t #[.slice (some ⟨q, 0, none⟩) 0 0, .slice (some ⟨g, off, none⟩) m c]).run Tryz.prog w = .ok (.slice (some ⟨q', 0, none⟩) m cap) w' ∧ w'.ownsRow B e size (.slice (some ⟨q', 0, none⟩) m cap) m ((List.range (m * size)).map C) ∧ w.grownBy w' (some q) ∧ (q' = q ∨ q' = w.heap.size) := by
  obtain ⟨v', w', hr, h2, h3, h4, h5⟩ := run_append_own_at (P := Tryz.prog) w B t t e i z size bytes ht hi hz hsize hby hzs hsz (.slice (some ⟨q, 0, none⟩) 0 0) 0 [] ho ⟨g, off, none⟩ m c ((List.range (m * size)).map C) (by simp) (fun j u hj => by
    simp only [List.getElem?_map, Option.map_eq_some_iff] at hj
    obtain ⟨q, hq, rfl⟩ := hj
    have hlt : j < m * size := by
      rcases Nat.lt_or_ge j (m * size) with h | h
      · exact h
      · rw [List.getElem?_eq_none (by simpa using h)] at hq; cases hq
    rw [List.getElem?_range hlt] at hq
    have hq := Option.some.inj hq
    rw [← hq, addr_addP]; exact hC j hlt) (fun u hu => by
    obtain ⟨j, hj, rfl⟩ := List.mem_map.1 hu
    exact h1 j (by simpa using hj)) (by unfold maxLen; omega) (by
      have : m * bytes ≤ 1048576 * 64 := Nat.mul_le_mul hm hb2
      rw [Nat.zero_add]; omega) hB
  rw [Nat.zero_add, List.nil_append] at h2
  rcases h2.2 with ⟨hv, _⟩ | ⟨q', cap, cur, rfl, r⟩
  · have := h4.1 hv; exact absurd this.1 (by simp)
  · refine ⟨q', cap, w', hr, h2, h3, ?_⟩
    rcases h5 with h5 | h5
    · exact .inl (by simpa [Value.ownBlock] using h5)
    · exact .inr (by simpa [Value.ownBlock] using h5)
set_option maxRecDepth 100000 in
set_option maxHeartbeats 1000000 in
theorem l3PathC (g off m c : Nat) (p : List ByteArray) (w : World) (hp : p.length = m) (hm : m ≤ 1048576) (hg : g < w.heap.size) (h : ∀ t, t < m → w.cell? ⟨g, off + t, none⟩ = some (.string (gS p t))) :
    Calls Tryz.prog 90 #[.slice (some ⟨g, off, none⟩) m c] w fun e w' => ∃ q cap, e = .returned (.slice (some ⟨q, 0, none⟩) m cap) ∧ Below w.heap.size w w' ∧ w.heap.size ≤ q ∧ q < w'.heap.size ∧ Wr w' q 9 m (fun t => .string (gS p t)) := by
  obtain ⟨i0, hi, hz0, hz1, hz2⟩ := info_parts infoStr
  have b0 : Below w.heap.size w (w.alloc (.cells #[] 9)) := (Below.refl _ _).alloc (Nat.le_refl _) _
  have ho : (w.alloc (.cells #[] 9)).ownsRow w.heap.size 9 1 (.slice (some ⟨w.heap.size, 0, none⟩) 0 0) 0 [] := by
    have := World.ownsRow_lit (base := w.heap.size) (e := 9) (size := 1) w #[] 0 (Nat.le_refl _) (by unfold maxLen; omega) rfl
    simpa using this
  obtain ⟨q, cap, w', happ, hw, hgr, hq⟩ := copyRowE 65 9 i0 _ 1 16 Tryz.underlying65 hi hz0 hz1 hz2 rfl (by decide) (by omega) w.heap.size g off m c (fun t => .string (gS p t)) (w.alloc (.cells #[] 9)) w.heap.size hm ho (by simp) (fun j hj => (b0.cell (p := ⟨g, off + j, none⟩) hg).trans (h j (by omega))) (fun _ _ => rfl)
  have hwr := own_wrF hw
  rw [Nat.mul_one] at hwr
  have HB : Hid (Below w.heap.size w w') := hid (b0.grown hgr b0.size (fun k e => by injection e with e; omega))
  have HW := hid hwr
  have HQ : Hid (w.heap.size ≤ q) := hid (by rcases hq with e | e <;> rw [e]; exact Nat.le_refl _; simp)
  clear hw hgr hq hwr h ho b0
  go_enter Tryz.func90, Tryz.ntmps90
  go_wp2_with (at_builtin; refine wpList_app2 rfl _ _ _ _ rfl happ (by rfl) (by rfl) rfl ?_; clear happ)
  go_ret
  exact ⟨q, cap, rfl, HB.out, HQ.out, HW.out.lt, HW.out⟩
set_option maxRecDepth 100000 in
set_option maxHeartbeats 1000000 in
theorem l3LeafC (g m c : Nat) (y : Lf) (w : World) (hp : y.p.length = m) (hm : m ≤ 1048576) (hg : g < w.heap.size) (h : ∀ t, t < m → w.cell? ⟨g, t, none⟩ = some (.string (gS y.p t))) :
    Calls Tryz.prog 58 #[.agg #[.slice (some ⟨g, 0, none⟩) m c, .bool y.fl, .int .i64 y.r, .int .i64 y.q, .string y.v]] w fun e w' => ∃ q cap, e = .returned (.agg #[.slice (some ⟨q, 0, none⟩) m cap, .bool y.fl, .int .i64 y.r, .int .i64 y.q, .string y.v]) ∧ Below w.heap.size w w' ∧ w.heap.size ≤ q ∧ q < w'.heap.size ∧ Wr w' q 9 m (fun t => .string (gS y.p t)) := by
  obtain ⟨W, hW⟩ : ∃ W, (w.alloc (.cells #[.slice (some ⟨g, 0, none⟩) m c, .bool y.fl, .int .i64 y.r, .int .i64 y.q, .string y.v] 69)).alloc (.cells #[.slice none 0 0, .bool false, .int .i64 0, .int .i64 0, .string ⟨#[]⟩] 69) = W := ⟨_, rfl⟩
  have b0 : Below w.heap.size w W := by rw [← hW]; exact below2 _ _ _
  have A0 : Bx5 W w.heap.size (.slice (some ⟨g, 0, none⟩) m c) (.bool y.fl) (.int .i64 y.r) (.int .i64 y.q) (.string y.v) := by rw [← hW]; exact (Bx5.new _ _ _ _ _ _ _).up _
  have R0 : Bx5 W (w.heap.size + 1) (.slice none 0 0) (.bool false) (.int .i64 0) (.int .i64 0) (.string ⟨#[]⟩) := by
    rw [← hW]
    have := Bx5.new (w.alloc (.cells #[.slice (some ⟨g, 0, none⟩) m c, .bool y.fl, .int .i64 y.r, .int .i64 y.q, .string y.v] 69)) (.slice none 0 0) (.bool false) (.int .i64 0) (.int .i64 0) (.string ⟨#[]⟩) 69
    simpa using this
  have HP := hid (l3PathC g 0 m c y.p W hp hm (Nat.lt_of_lt_of_le hg b0.size) (fun t ht => by rw [Nat.zero_add]; exact (b0.cell (p := ⟨g, t, none⟩) hg).trans (h t ht)))
  have k0 := A0.c0
  have HA := hid A0
  have HR := hid R0
  have HB0 := hid b0
  have hWsz : w.heap.size + 1 < W.heap.size := R0.lt
  clear b0 A0 R0 h
  go_enter Tryz.func58, Tryz.ntmps58
  go_wp2_with fail
  try rw [hW]
  clear hW
  refine HP.out.mono ?_
  rintro e w1 ⟨q, cap, rfl, b1, hq1, hq2, hwr⟩
  have A1 := HA.out.below b1 HA.out.lt
  have R1 := HR.out.below b1 HR.out.lt
  have a0 := A1.c0
  have a1 := A1.c1
  have a2 := A1.c2
  have a3 := A1.c3
  have a4 := A1.c4
  have fa := A1.f
  have r0 := R1.c0
  have r1 := R1.c1
  have r2 := R1.c2
  have r3 := R1.c3
  have r4 := R1.c4
  have fr := R1.f
  have HWr := hid hwr
  have HB1 := hid (keepS HB0.out b1)
  have HQ : Hid (W.heap.size ≤ q ∧ q < w1.heap.size) := hid ⟨hq1, hq2⟩
  clear k0 HP hwr hq1 hq2 b1 A1 R1
  go_wp2_with fail
  have hq := HQ.out
  refine bodyPost_ret (v := .agg #[.slice (some ⟨q, 0, none⟩) m cap, .bool y.fl, .int .i64 y.r, .int .i64 y.q, .string y.v]) (by simp [results, Tryz.results58, go_sem, r0, r1, r2, r3, r4]) rfl ⟨q, cap, rfl, ?_, by omega, ?_, ?_⟩
  · repeat (refine Below.setCell ?_ (by simp) _)
    exact HB1.out
  · simp [World.setCell]; exact hq.2
  · repeat (refine Wr.same (w := _) ?_ (Below.heap_setCell _ _ _ _ (by simp; omega)))
    exact HWr.out

def lCp (l : List Lf) (P Q : Nat → Nat) (j : Nat) : Value :=
  if j % 5 = 0 then .slice (some ⟨P (j / 5), 0, none⟩) (gL l (j / 5)).p.length (Q (j / 5)) else if j % 5 = 1 then .bool (gL l (j / 5)).fl else if j % 5 = 2 then .int .i64 (gL l (j / 5)).r else if j % 5 = 3 then .int .i64 (gL l (j / 5)).q else .string (gL l (j / 5)).v
theorem lCp0 (l : List Lf) (P Q : Nat → Nat) (i : Nat) : lCp l P Q (i * 5) = .slice (some ⟨P i, 0, none⟩) (gL l i).p.length (Q i) ∧ lCp l P Q (i * 5 + 1) = .bool (gL l i).fl ∧ lCp l P Q (i * 5 + 2) = .int .i64 (gL l i).r ∧ lCp l P Q (i * 5 + 3) = .int .i64 (gL l i).q ∧ lCp l P Q (i * 5 + 4) = .string (gL l i).v := by
  unfold lCp
  refine ⟨?_, ?_, ?_, ?_, ?_⟩
  · rw [if_pos (by omega), show i * 5 / 5 = i by omega]
  · rw [if_neg (by omega), if_pos (by omega), show (i * 5 + 1) / 5 = i by omega]
  · rw [if_neg (by omega), if_neg (by omega), if_pos (by omega), show (i * 5 + 2) / 5 = i by omega]
  · rw [if_neg (by omega), if_neg (by omega), if_neg (by omega), if_pos (by omega), show (i * 5 + 3) / 5 = i by omega]
  · rw [if_neg (by omega), if_neg (by omega), if_neg (by omega), if_neg (by omega), show (i * 5 + 4) / 5 = i by omega]
theorem lCp_snoc (l : List Lf) (P Q : Nat → Nat) (k p q : Nat) : (List.range ((k + 1) * 5)).map (lCp l (fun i => if i = k then p else P i) (fun i => if i = k then q else Q i)) = (List.range (k * 5)).map (lCp l P Q) ++ [.slice (some ⟨p, 0, none⟩) (gL l k).p.length q, .bool (gL l k).fl, .int .i64 (gL l k).r, .int .i64 (gL l k).q, .string (gL l k).v] := by
  rw [show (k + 1) * 5 = k * 5 + 1 + 1 + 1 + 1 + 1 by omega]
  simp only [List.range_succ, List.map_append, List.map_cons, List.map_nil, List.append_assoc, List.cons_append, List.nil_append]
  obtain ⟨d0, d1, d2, d3, d4⟩ := lCp0 l (fun i => if i = k then p else P i) (fun i => if i = k then q else Q i) k
  rw [d0, d1, d2, d3, d4]
  simp only [if_pos]
  congr 1
  refine List.map_congr_left fun j hj => ?_
  have hj' : j < k * 5 := by simpa using hj
  unfold lCp
  have hne : j / 5 ≠ k := by omega
  simp only [if_neg hne]
theorem cell_five_new (w : World) (v0 v1 v2 v3 v4 : Value) (t : TypeId) : ∀ j u, [v0, v1, v2, v3, v4][j]? = some u → (w.alloc (.cells #[v0, v1, v2, v3, v4] t)).cell? ((⟨w.heap.size, 0, none⟩ : Addr).add j) = some u := by
  intro j u hj
  have hB := Bx5.new w v0 v1 v2 v3 v4 t
  rw [addr_addP, Nat.zero_add]
  match j, hj with
  | 0, hj => rw [hB.c0]; simpa using hj
  | 1, hj => rw [hB.c1]; simpa using hj
  | 2, hj => rw [hB.c2]; simpa using hj
  | 3, hj => rw [hB.c3]; simpa using hj
  | 4, hj => rw [hB.c4]; simpa using hj
  | j + 5, hj => simp at hj

structure L3 (w wr : World) (q cap k : Nat) (l : List Lf) (P Q : Nat → Nat) (va vx : Value) : Prop where
  low : Below w.heap.size w wr
  ab : Bx2 wr w.heap.size va vx
  rb : Bx2 wr (w.heap.size + 1) (.slice none 0 0) (.slice none 0 0)
  ob : Bx2 wr (w.heap.size + 1 + 1 + 1 + 1) (.slice (some ⟨q, 0, none⟩) k cap) (.slice (some ⟨w.heap.size + 1 + 1 + 1, 0, none⟩) 0 0)
  row : wr.ownsRow (w.heap.size + 1 + 1) 69 5 (.slice (some ⟨q, 0, none⟩) k cap) k ((List.range (k * 5)).map (lCp l P Q))
  q1 : q = w.heap.size + 1 + 1 ∨ w.heap.size + 5 ≤ q
  rn : wr.ownsRow (w.heap.size + 1 + 1 + 1) 71 3 (.slice (some ⟨w.heap.size + 1 + 1 + 1, 0, none⟩) 0 0) 0 []
  pt : ∀ i, i < k → w.heap.size + 5 ≤ P i ∧ P i < wr.heap.size ∧ P i ≠ q ∧ Wr wr (P i) 9 (gL l i).p.length (fun t => .string (gS (gL l i).p t))
theorem L3.below {w wr w' : World} {q cap k : Nat} {l : List Lf} {P Q : Nat → Nat} {va vx : Value} (h : L3 w wr q cap k l P Q va vx) (hb : Below wr.heap.size wr w') : L3 w w' q cap k l P Q va vx :=
  ⟨keepS h.low hb, h.ab.below hb h.ab.lt, h.rb.below hb h.rb.lt, h.ob.below hb h.ob.lt, own_at5 h.row fun g hg => hb.block g (h.row.lt g hg).2, h.q1, own_at5 h.rn fun g hg => hb.block g (h.rn.lt g hg).2, fun i hi => by
    obtain ⟨e1, e2, e3, e4⟩ := h.pt i hi
    exact ⟨e1, Nat.lt_of_lt_of_le e2 hb.size, e3, e4.same (hb.block _ e2)⟩⟩
set_option maxRecDepth 100000 in
theorem L3.step {w wr w1 : World} {q cap k : Nat} {l : List Lf} {P Q : Nat → Nat} {va vx : Value} (h : L3 w wr q cap k l P Q va vx) (hb : Below wr.heap.size wr w1) (hk : k ≤ 1048576) (p pc : Nat) (hp1 : wr.heap.size ≤ p) (hp2 : p < w1.heap.size) (hw : Wr w1 p 9 (gL l k).p.length (fun t => .string (gS (gL l k).p t))) :
    ∃ q' cap' w3, (Builtin.append_ #[31, 31] 31 #[.slice (some ⟨q, 0, none⟩) k cap, .slice (some ⟨w1.heap.size, 0, none⟩) 1 1]).run Tryz.prog (w1.alloc (.cells #[.slice (some ⟨p, 0, none⟩) (gL l k).p.length pc, .bool (gL l k).fl, .int .i64 (gL l k).r, .int .i64 (gL l k).q, .string (gL l k).v] 69)) = .ok (.slice (some ⟨q', 0, none⟩) (k + 1) cap') w3 ∧
      Below w.heap.size w w3 ∧ Bx2 w3 w.heap.size va vx ∧ Bx2 w3 (w.heap.size + 1 + 1 + 1 + 1) (.slice (some ⟨q, 0, none⟩) k cap) (.slice (some ⟨w.heap.size + 1 + 1 + 1, 0, none⟩) 0 0) ∧
      L3 w (w3.setCell ⟨w.heap.size + 1 + 1 + 1 + 1, 0, none⟩ (.slice (some ⟨q', 0, none⟩) (k + 1) cap')) q' cap' (k + 1) l (fun i => if i = k then p else P i) (fun i => if i = k then pc else Q i) va vx := by
  obtain ⟨i0, hi, hz0, hz1, hz2⟩ := info_parts infoLeaf
  have h1 := h.below hb
  have b2 : Below w1.heap.size w1 (w1.alloc (.cells #[.slice (some ⟨p, 0, none⟩) (gL l k).p.length pc, .bool (gL l k).fl, .int .i64 (gL l k).r, .int .i64 (gL l k).q, .string (gL l k).v] 69)) := (Below.refl _ _).alloc (Nat.le_refl _) _
  have h2 := h1.below b2
  have hw2 := hw.same (b2.block p hp2)
  have hn5 := cell_five_new w1 (.slice (some ⟨p, 0, none⟩) (gL l k).p.length pc) (.bool (gL l k).fl) (.int .i64 (gL l k).r) (.int .i64 (gL l k).q) (.string (gL l k).v) 69
  obtain ⟨W2, hW2⟩ : ∃ W2, w1.alloc (.cells #[.slice (some ⟨p, 0, none⟩) (gL l k).p.length pc, .bool (gL l k).fl, .int .i64 (gL l k).r, .int .i64 (gL l k).q, .string (gL l k).v] 69) = W2 := ⟨_, rfl⟩
  rw [hW2] at h2 hw2 hn5 b2 ⊢
  have hz : w1.heap.size < W2.heap.size := by rw [← hW2]; simp
  have hob := h.ob.lt
  have hsz1 := hb.size
  obtain ⟨v', w3, hr, g2, g3, g4, g5⟩ := run_append_own_at (P := Tryz.prog) W2 (w.heap.size + 1 + 1) 31 31 69 i0 _ 5 64 Tryz.underlying31 hi hz0 hz1 hz2 rfl (by decide) (.slice (some ⟨q, 0, none⟩) k cap) k _ h2.row ⟨w1.heap.size, 0, none⟩ 1 1 [.slice (some ⟨p, 0, none⟩) (gL l k).p.length pc, .bool (gL l k).fl, .int .i64 (gL l k).r, .int .i64 (gL l k).q, .string (gL l k).v] rfl hn5 (fun u hu => by
    simp only [List.mem_cons, List.not_mem_nil, or_false] at hu
    rcases hu with e | e | e | e | e <;> rw [e] <;> rfl) (by unfold maxLen; omega) (by omega) (by omega)
  rcases g2.2 with ⟨hv, _⟩ | ⟨q', cap', cur, hv, r⟩
  · have := g4.1 hv; exact absurd this.1 (by simp)
  rw [hv] at hr g2 g5
  have hgq : w3.ownsRow (w.heap.size + 1 + 1) 69 5 (.slice (some ⟨q', 0, none⟩) (k + 1) cap') (k + 1) ((List.range ((k + 1) * 5)).map (lCp l (fun i => if i = k then p else P i) (fun i => if i = k then pc else Q i))) := by rw [lCp_snoc]; exact g2
  have hqq : q' = q ∨ q' = W2.heap.size := by
    rcases g5 with g5 | g5
    · exact .inl (by simpa [Value.ownBlock] using g5)
    · exact .inr (by simpa [Value.ownBlock] using g5)
  have hgr : W2.grownBy w3 (some q) := g3
  have hq1 := h.q1
  have hblk : ∀ b, b < W2.heap.size → b ≠ q → w3.heap[b]? = W2.heap[b]? := fun b hb1 hb2 => hgr.block b hb1 (fun e => hb2 (by injection e))
  have hs3 := hgr.size
  have hat : ∀ {b : Nat} {u0 u1 : Value}, Bx2 W2 b u0 u1 → b ≠ q → Bx2 w3 b u0 u1 := fun {b u0 u1} hB hne => ⟨(World.cell?_of_block (a := ⟨b, 0, none⟩) (hblk b hB.lt hne)).trans hB.c0, (World.cell?_of_block (a := ⟨b, 1, none⟩) (hblk b hB.lt hne)).trans hB.c1, fun i => (World.frozen?_of_block (a := ⟨b, i, none⟩) (hblk b hB.lt hne)).trans (hB.f i), by have := hB.lt; omega⟩
  have A3 := hat h2.ab (by omega)
  have R3 := hat h2.rb (by omega)
  have O3 := hat h2.ob (by omega)
  have low3 : Below w.heap.size w w3 := h2.low.grown hgr h2.low.size (fun k e => by injection e with e; omega)
  refine ⟨q', cap', w3, hr, low3, A3, O3, low3.setCell (by simp; omega) _, A3.setAt _ _ (by simp; omega), R3.setAt _ _ (by simp; omega), O3.set0 _, owns_set hgq _ _ (by simp; omega), by omega, ?_, fun i hi => ?_⟩
  · exact owns_set (own_at5 h2.rn fun g hg => by
      have e1 : w.heap.size + 1 + 1 + 1 = g := by simpa [Value.ownBlock] using hg
      exact hblk g (h2.rn.lt g hg).2 (by omega)) _ _ (by simp)
  · by_cases e : i = k
    · subst e
      simp only [if_pos]
      exact ⟨by omega, by simp [World.setCell]; omega, by have := h.row.lt q rfl; omega, (hw2.same (hblk p (by omega) (by have := (h.row.lt q rfl).2; omega))).same (Below.heap_setCell _ _ _ _ (by simp; omega))⟩
    · simp only [if_neg e]
      obtain ⟨e1, e2, e3, e4⟩ := h2.pt i (by omega)
      have e2' := (h.pt i (by omega)).2.1
      exact ⟨e1, by simp [World.setCell]; omega, by omega, (e4.same (hblk _ e2 e3)).same (Below.heap_setCell _ _ _ _ (by simp; omega))⟩
end Go.Proofs.YtdenbicnckkdfaaGreat

namespace Go.Proofs.YtdenbicnckkdfaaGreat
open Go.ChangeShapes Go.WideShapes Go.ChangeAt Go.RowKit Go.Deep
set_option linter.unusedVariables false
set_option linter.unusedSimpArgs false

theorem Bx2.new2 (w : World) (v0 v1 : Value) (t : TypeId) : Bx2 (w.alloc (.cells #[v0, v1] t)) w.heap.size v0 v1 := Bx2.made _ _ _ _
theorem Bx2.up {w : World} {b : Nat} {v0 v1 : Value} (h : Bx2 w b v0 v1) (o : Obj) : Bx2 (w.alloc o) b v0 v1 := h.below ((Below.refl w.heap.size w).alloc (Nat.le_refl _) o) h.lt
theorem owns_up {w : World} {B e size n : Nat} {v : Value} {xs : List Value} (h : w.ownsRow B e size v n xs) (o : Obj) : (w.alloc o).ownsRow B e size v n xs :=
  own_at5 h fun g hg => ((Below.refl w.heap.size w).alloc (Nat.le_refl _) o).block g (h.lt g hg).2
theorem L3.start (w : World) (l : List Lf) (va vx : Value) (P Q : Nat → Nat) :
    L3 w (((((w.alloc (.cells #[va, vx] 36)).alloc (.cells #[.slice none 0 0, .slice none 0 0] 36)).alloc (.cells #[] 69)).alloc (.cells #[] 71)).alloc (.cells #[.slice (some ⟨w.heap.size + 1 + 1, 0, none⟩) 0 0, .slice (some ⟨w.heap.size + 1 + 1 + 1, 0, none⟩) 0 0] 36)) (w.heap.size + 1 + 1) 0 0 l P Q va vx := by
  obtain ⟨w1, h1⟩ : ∃ w1, w.alloc (.cells #[va, vx] 36) = w1 := ⟨_, rfl⟩
  have z1 : w1.heap.size = w.heap.size + 1 := by rw [← h1]; simp
  have A1 : Bx2 w1 w.heap.size va vx := by rw [← h1]; exact Bx2.made _ _ _ _
  have l1 : Below w.heap.size w w1 := by rw [← h1]; exact (Below.refl _ _).alloc (Nat.le_refl _) _
  rw [h1]
  obtain ⟨w2, h2⟩ : ∃ w2, w1.alloc (.cells #[.slice none 0 0, .slice none 0 0] 36) = w2 := ⟨_, rfl⟩
  have z2 : w2.heap.size = w.heap.size + 1 + 1 := by rw [← h2]; simp [z1]
  have A2 : Bx2 w2 w.heap.size va vx := by rw [← h2]; exact A1.up _
  have R2 : Bx2 w2 (w.heap.size + 1) (.slice none 0 0) (.slice none 0 0) := by rw [← h2, ← z1]; exact Bx2.made _ _ _ _
  have l2 : Below w.heap.size w w2 := by rw [← h2]; exact l1.alloc (by omega) _
  rw [h2]
  obtain ⟨w3, h3⟩ : ∃ w3, w2.alloc (.cells #[] 69) = w3 := ⟨_, rfl⟩
  have z3 : w3.heap.size = w.heap.size + 1 + 1 + 1 := by rw [← h3]; simp [z2]
  have A3 : Bx2 w3 w.heap.size va vx := by rw [← h3]; exact A2.up _
  have R3 : Bx2 w3 (w.heap.size + 1) (.slice none 0 0) (.slice none 0 0) := by rw [← h3]; exact R2.up _
  have l3 : Below w.heap.size w w3 := by rw [← h3]; exact l2.alloc (by omega) _
  have O3 : w3.ownsRow (w.heap.size + 1 + 1) 69 5 (.slice (some ⟨w.heap.size + 1 + 1, 0, none⟩) 0 0) 0 [] := by
    rw [← h3, ← z2]
    have := World.ownsRow_lit (base := w2.heap.size) (e := 69) (size := 5) w2 #[] 0 (Nat.le_refl _) (by unfold maxLen; omega) rfl
    simpa using this
  rw [h3]
  obtain ⟨w4, h4⟩ : ∃ w4, w3.alloc (.cells #[] 71) = w4 := ⟨_, rfl⟩
  have z4 : w4.heap.size = w.heap.size + 1 + 1 + 1 + 1 := by rw [← h4]; simp [z3]
  have A4 : Bx2 w4 w.heap.size va vx := by rw [← h4]; exact A3.up _
  have R4 : Bx2 w4 (w.heap.size + 1) (.slice none 0 0) (.slice none 0 0) := by rw [← h4]; exact R3.up _
  have l4 : Below w.heap.size w w4 := by rw [← h4]; exact l3.alloc (by omega) _
  have O4 : w4.ownsRow (w.heap.size + 1 + 1) 69 5 (.slice (some ⟨w.heap.size + 1 + 1, 0, none⟩) 0 0) 0 [] := by rw [← h4]; exact owns_up O3 _
  have N4 : w4.ownsRow (w.heap.size + 1 + 1 + 1) 71 3 (.slice (some ⟨w.heap.size + 1 + 1 + 1, 0, none⟩) 0 0) 0 [] := by
    rw [← h4, ← z3]
    have := World.ownsRow_lit (base := w3.heap.size) (e := 71) (size := 3) w3 #[] 0 (Nat.le_refl _) (by unfold maxLen; omega) rfl
    simpa using this
  rw [h4]
  refine ⟨l4.alloc (by omega) _, A4.up _, R4.up _, ?_, ?_, .inl rfl, owns_up N4 _, fun i hi => by omega⟩
  · rw [← z4]; exact Bx2.made _ _ _ _
  · exact owns_up O4 _
theorem L3.seg {w wr : World} {q cap : Nat} {l : List Lf} {P Q : Nat → Nat} {va vx : Value} (h : L3 w wr q cap l.length l P Q va vx) {w' : World} (hs : wr.heap.size ≤ w'.heap.size) (hq : ∀ b, b < wr.heap.size → (b = q ∨ w.heap.size + 5 ≤ b) → w'.heap[b]? = wr.heap[b]?) : LSeg w' (some ⟨q, 0, none⟩) l := by
  have hw := own_wrF h.row
  have eb := hq q hw.lt (.inl rfl)
  have hw' := hw.same eb
  refine .inr ⟨q, 0, rfl, hw'.lt, fun i hi => ?_⟩
  obtain ⟨d0, d1, d2, d3, d4⟩ := lCp0 l P Q i
  obtain ⟨e1, e2, e3, e4⟩ := h.pt i hi
  have e4' := e4.same (hq (P i) e2 (.inr e1))
  refine ⟨some ⟨P i, 0, none⟩, Q i, ?_, ?_, ?_, ?_, ?_, ?_⟩
  · rw [Nat.zero_add, hw'.cell (by omega), d0]
  · by_cases h0 : (gL l i).p.length = 0
    · exact .inl h0
    · exact .inr ⟨P i, 0, rfl, e4'.lt, fun t ht => by rw [Nat.zero_add]; exact e4'.cell ht⟩
  · rw [Nat.zero_add, hw'.cell (by omega), d1]
  · rw [Nat.zero_add, hw'.cell (by omega), d2]
  · rw [Nat.zero_add, hw'.cell (by omega), d3]
  · rw [Nat.zero_add, hw'.cell (by omega), d4]

def SNu (w : World) (lo : Nat) (a x : Option Addr) (S : Sx) : Prop := ∀ w' : World, w.heap.size ≤ w'.heap.size → (∀ q, lo ≤ q → q < w.heap.size → w'.heap[q]? = w.heap[q]?) → SAt w' a x S
theorem SNu.at {w : World} {lo : Nat} {a x : Option Addr} {S : Sx} (h : SNu w lo a x S) : SAt w a x S := h w (Nat.le_refl _) (fun _ _ _ => rfl)
theorem SNu.move {w w1 : World} {lo lo' : Nat} {a x : Option Addr} {S : Sx} (h : SNu w lo a x S) (hl : lo' ≤ lo) (hs : w.heap.size ≤ w1.heap.size) (hq : ∀ q, lo ≤ q → q < w.heap.size → w1.heap[q]? = w.heap[q]?) : SNu w1 lo' a x S :=
  fun w' h1 h2 => h w' (Nat.le_trans hs h1) (fun q h3 h4 => (h2 q (Nat.le_trans hl h3) (Nat.lt_of_lt_of_le h4 hs)).trans (hq q h3 h4))
theorem SNu.below {w w1 : World} {lo : Nat} {a x : Option Addr} {S : Sx} (h : SNu w lo a x S) (hb : Below w.heap.size w w1) : SNu w1 lo a x S := h.move (Nat.le_refl _) hb.size (fun q _ h2 => hb.block q h2)
theorem SNu.set {w : World} {lo : Nat} {a x : Option Addr} {S : Sx} (h : SNu w lo a x S) (q : Addr) (u : Value) (hq : q.block < lo) : SNu (w.setCell q u) lo a x S := h.move (Nat.le_refl _) (by simp [World.setCell]) (fun p h1 h2 => Below.heap_setCell _ _ _ _ (by omega))
set_option maxRecDepth 100000 in
set_option maxHeartbeats 2000000 in
theorem l3CopyC (g k lo hi c d : Nat) (S : Sx) (w : World) (hm : S.Sm) (h : SNw w lo hi g k S) :
    Calls Tryz.prog 35 #[.agg #[.slice (some ⟨g, 0, none⟩) S.l.length c, .slice (some ⟨k, 0, none⟩) S.n d]] w fun e w' => ∃ a c' x d', e = .returned (.agg #[.slice a S.l.length c', .slice x S.n d']) ∧ SNu w' w.heap.size a x S ∧ Below w.heap.size w w' := by
  obtain ⟨A, hA⟩ := h.bl
  have HA := hid hA
  have HRN := hid h.rn
  have hkw : k < w.heap.size := Nat.lt_of_lt_of_le h.k2 h.hl
  have hgw := hA.g1
  have hlen := hm.l1
  have HP1 := hid hm.p1
  have HS0 := hid (L3.start w S.l (.slice (some ⟨g, 0, none⟩) S.l.length c) (.slice (some ⟨k, 0, none⟩) S.n d) (fun _ => 0) (fun _ => 0))
  clear h hA
  go_enter Tryz.func35, Tryz.ntmps35
  go_wp2_with fail
  go_loopw [4] (fun i wr => ∃ (j : Nat), j ≤ S.l.length ∧ i = .int .i64 (j : Int) ∧ Hid (∃ q cap P Q, L3 w wr q cap j S.l P Q (.slice (some ⟨g, 0, none⟩) S.l.length c) (.slice (some ⟨k, 0, none⟩) S.n d))) (fun i _ => S.l.length - (intOf i).toNat)
  case atStart => exact ⟨0, Nat.zero_le _, rfl, hid ⟨_, _, _, _, HS0.out⟩⟩
  case round =>
    clear HS0
    obtain ⟨j, hj, rfl, HI⟩ := hrel
    obtain ⟨q, cap, P, Q, hL⟩ := HI.out
    have HL := hid hL
    have a0 := hL.ab.c0
    have a1 := hL.ab.c1
    have o0 := hL.ob.c0
    have o1 := hL.ob.c1
    clear hL HI
    by_cases hlt : j < S.l.length
    · have i1 : (0 : Int) ≤ (j : Int) := Int.natCast_nonneg _
      have i2 : (j : Int) < (S.l.length : Int) := by omega
      have hBl : LBl wr g S.l A := HA.out.below HL.out.low
      obtain ⟨d0, d1, d2, d3, d4⟩ := lCl0 S.l A j
      have c0 := hBl.cel (j * 5) (by omega)
      have c1 := hBl.cel (j * 5 + 1) (by omega)
      have c2 := hBl.cel (j * 5 + 2) (by omega)
      have c3 := hBl.cel (j * 5 + 3) (by omega)
      have c4 := hBl.cel (j * 5 + 4) (by omega)
      rw [d0] at c0
      rw [d1] at c1
      rw [d2] at c2
      rw [d3] at c3
      rw [d4] at c4
      have HLF : Hid (∀ w1, Below wr.heap.size wr w1 → Calls Tryz.prog 58 #[.agg #[.slice (some ⟨A j, 0, none⟩) (gL S.l j).p.length (gL S.l j).p.length, .bool (gL S.l j).fl, .int .i64 (gL S.l j).r, .int .i64 (gL S.l j).q, .string (gL S.l j).v]] w1 fun e w' => ∃ p pc, e = .returned (.agg #[.slice (some ⟨p, 0, none⟩) (gL S.l j).p.length pc, .bool (gL S.l j).fl, .int .i64 (gL S.l j).r, .int .i64 (gL S.l j).q, .string (gL S.l j).v]) ∧ Below w1.heap.size w1 w' ∧ w1.heap.size ≤ p ∧ p < w'.heap.size ∧ Wr w' p 9 (gL S.l j).p.length (fun t => .string (gS (gL S.l j).p t))) := hid (fun w1 hb => by
        have hB1 := hBl.below hb
        exact l3LeafC (A j) (gL S.l j).p.length (gL S.l j).p.length (gL S.l j) w1 rfl (HP1.out j) (hB1.a1 j hlt) (hB1.str j hlt))
      have HST : Hid (∀ w1 p pc, Below wr.heap.size wr w1 → wr.heap.size ≤ p → p < w1.heap.size → Wr w1 p 9 (gL S.l j).p.length (fun t => .string (gS (gL S.l j).p t)) → ∃ q' cap' w3, (Builtin.append_ #[31, 31] 31 #[.slice (some ⟨q, 0, none⟩) j cap, .slice (some ⟨w1.heap.size, 0, none⟩) 1 1]).run Tryz.prog (w1.alloc (.cells #[.slice (some ⟨p, 0, none⟩) (gL S.l j).p.length pc, .bool (gL S.l j).fl, .int .i64 (gL S.l j).r, .int .i64 (gL S.l j).q, .string (gL S.l j).v] 69)) = .ok (.slice (some ⟨q', 0, none⟩) (j + 1) cap') w3 ∧
        Below w.heap.size w w3 ∧ Bx2 w3 w.heap.size (.slice (some ⟨g, 0, none⟩) S.l.length c) (.slice (some ⟨k, 0, none⟩) S.n d) ∧ Bx2 w3 (w.heap.size + 1 + 1 + 1 + 1) (.slice (some ⟨q, 0, none⟩) j cap) (.slice (some ⟨w.heap.size + 1 + 1 + 1, 0, none⟩) 0 0) ∧
        ∃ q cap P Q, L3 w (w3.setCell ⟨w.heap.size + 1 + 1 + 1 + 1, 0, none⟩ (.slice (some ⟨q', 0, none⟩) (j + 1) cap')) q cap (j + 1) S.l P Q (.slice (some ⟨g, 0, none⟩) S.l.length c) (.slice (some ⟨k, 0, none⟩) S.n d)) := hid (fun w1 p pc hb h1 h2 h3 => by
        obtain ⟨q', cap', w3, e1, e2, e3, e4, e5⟩ := HL.out.step hb (by omega) p pc h1 h2 h3
        exact ⟨q', cap', w3, e1, e2, e3, e4, _, _, _, _, e5⟩)
      obtain ⟨y, hy⟩ : ∃ y, gL S.l j = y := ⟨_, rfl⟩
      rw [hy] at c0 c1 c2 c3 c4 HLF HST
      obtain ⟨yp, yf, yr, yq, yv⟩ := y
      dsimp only at c0 c1 c2 c3 c4 HLF HST
      obtain ⟨np, hnp⟩ : ∃ np, yp.length = np := ⟨_, rfl⟩
      rw [hnp] at c0 HLF HST
      obtain ⟨Aj, hAj⟩ : ∃ Aj, A j = Aj := ⟨_, rfl⟩
      rw [hAj] at c0 HLF
      have HC : Hid (∀ w', Below w.heap.size w w' → w'.cell? ⟨g, j * 5, none⟩ = some (.slice (some ⟨Aj, 0, none⟩) np np) ∧ w'.cell? ⟨g, j * 5 + 1, none⟩ = some (.bool yf) ∧ w'.cell? ⟨g, j * 5 + 2, none⟩ = some (.int .i64 yr) ∧ w'.cell? ⟨g, j * 5 + 3, none⟩ = some (.int .i64 yq) ∧ w'.cell? ⟨g, j * 5 + 4, none⟩ = some (.string yv)) := hid (fun w' hb' => by
        have hB := HA.out.below hb'
        have e := lCl0 S.l A j
        rw [hy, hAj] at e
        dsimp only at e
        rw [hnp] at e
        exact ⟨(hB.cel _ (by omega)).trans (by rw [e.1]), (hB.cel _ (by omega)).trans (by rw [e.2.1]), (hB.cel _ (by omega)).trans (by rw [e.2.2.1]), (hB.cel _ (by omega)).trans (by rw [e.2.2.2.1]), (hB.cel _ (by omega)).trans (by rw [e.2.2.2.2])⟩)
      clear hy hnp hAj d0 d1 d2 d3 d4 hBl
      go_wp2_with fail

      have HCS : Hid (∀ w', Below w.heap.size w w' → w'.cell? ⟨w.heap.size, 0, none⟩ = some (.slice (some ⟨g, 0, none⟩) S.l.length c) → (Below w.heap.size w w' ∧ w'.cell? ⟨w.heap.size, 0, none⟩ = some (.slice (some ⟨g, 0, none⟩) S.l.length c) ∧ w'.cell? ⟨g, j * 5, none⟩ = some (.slice (some ⟨Aj, 0, none⟩) np np) ∧ w'.cell? ⟨g, j * 5 + 1, none⟩ = some (.bool yf) ∧ w'.cell? ⟨g, j * 5 + 2, none⟩ = some (.int .i64 yr) ∧ w'.cell? ⟨g, j * 5 + 3, none⟩ = some (.int .i64 yq) ∧ w'.cell? ⟨g, j * 5 + 4, none⟩ = some (.string yv))) := hid (fun w' hB h0 => ⟨hB, h0, HC.out w' hB⟩)
      refine wp_region_held_drew (S := fun w' => Below w.heap.size w w' ∧ w'.cell? ⟨w.heap.size, 0, none⟩ = some (.slice (some ⟨g, 0, none⟩) S.l.length c) ∧ w'.cell? ⟨g, j * 5, none⟩ = some (.slice (some ⟨Aj, 0, none⟩) np np) ∧ w'.cell? ⟨g, j * 5 + 1, none⟩ = some (.bool yf) ∧ w'.cell? ⟨g, j * 5 + 2, none⟩ = some (.int .i64 yr) ∧ w'.cell? ⟨g, j * 5 + 3, none⟩ = some (.int .i64 yq) ∧ w'.cell? ⟨g, j * 5 + 4, none⟩ = some (.string yv)) (by kernel_rfl) (HCS.out _ HL.out.low.drew (HL.out.ab.below (Below.refl _ _).drew HL.out.ab.lt).c0) (fun hHeld => ?_)
      clear c0 c1 c2 c3 c4
      refine take1 (i := 0) (d := some 16) (v := ?_) (by kernel_rfl) (by kernel_rfl) (by kernel_rfl) (by kernel_rfl) (fun _ _ _ h => h) ?_ hHeld ?_
      rotate_left
      · (intro o ho; simp only [List.getElem?_toArray, List.getElem?_cons_succ, List.getElem?_cons_zero, Option.some.injEq] at ho; subst ho; refine Or.inl ⟨by rfl, ?_⟩; intro w hSw; (try dsimp only at hSw); go_simp; try with_reducible rfl)
      try simp only [Act.put, List.setIfInBounds_toArray, List.set_cons_zero, List.set_cons_succ]
      refine take1 (i := 2) (d := some 18) (v := ?_) (by kernel_rfl) (by kernel_rfl) (by kernel_rfl) (by kernel_rfl) (fun _ _ _ h => h) ?_ hHeld ?_
      rotate_left
      · (intro o ho; simp only [List.getElem?_toArray, List.getElem?_cons_succ, List.getElem?_cons_zero, Option.some.injEq] at ho; subst ho; refine Or.inl ⟨by rfl, ?_⟩; intro w hSw; (try dsimp only at hSw); go_simp; try with_reducible rfl)
      try simp only [Act.put, List.setIfInBounds_toArray, List.set_cons_zero, List.set_cons_succ]
      refine take1 (i := 3) (d := some 19) (v := ?_) (by kernel_rfl) (by kernel_rfl) (by kernel_rfl) (by kernel_rfl) (fun _ _ _ h => h) ?_ hHeld ?_
      rotate_left
      · (intro o ho; simp only [List.getElem?_toArray, List.getElem?_cons_succ, List.getElem?_cons_zero, Option.some.injEq] at ho; subst ho; refine Or.inl ⟨by rfl, ?_⟩; intro w hSw; (try dsimp only at hSw); go_simp; try with_reducible rfl)
      try simp only [Act.put, List.setIfInBounds_toArray, List.set_cons_zero, List.set_cons_succ]
      refine take1 (i := 4) (d := some 20) (v := ?_) (by kernel_rfl) (by kernel_rfl) (by kernel_rfl) (by kernel_rfl) (fun _ _ _ h => h) ?_ hHeld ?_
      rotate_left
      · (intro o ho; simp only [List.getElem?_toArray, List.getElem?_cons_succ, List.getElem?_cons_zero, Option.some.injEq] at ho; subst ho; refine Or.inl ⟨by rfl, ?_⟩; intro w hSw; (try dsimp only at hSw); go_simp; try with_reducible rfl)
      try simp only [Act.put, List.setIfInBounds_toArray, List.set_cons_zero, List.set_cons_succ]
      refine take1 (i := 5) (d := some 21) (v := ?_) (by kernel_rfl) (by kernel_rfl) (by kernel_rfl) (by kernel_rfl) (fun _ _ _ h => h) ?_ hHeld ?_
      rotate_left
      · (intro o ho; simp only [List.getElem?_toArray, List.getElem?_cons_succ, List.getElem?_cons_zero, Option.some.injEq] at ho; subst ho; refine Or.inl ⟨by rfl, ?_⟩; intro w hSw; (try dsimp only at hSw); go_simp; try with_reducible rfl)
      try simp only [Act.put, List.setIfInBounds_toArray, List.set_cons_zero, List.set_cons_succ]
      refine take1 (i := 6) (d := some 22) (v := ?_) (by kernel_rfl) (by kernel_rfl) (by kernel_rfl) (by kernel_rfl) (fun _ _ _ h => h) ?_ hHeld ?_
      rotate_left
      · (intro o ho; simp only [List.getElem?_toArray, List.getElem?_cons_succ, List.getElem?_cons_zero, Option.some.injEq] at ho; subst ho; refine Or.inl ⟨by rfl, ?_⟩; intro w hSw; (try dsimp only at hSw); go_simp; try with_reducible rfl)
      try simp only [Act.put, List.setIfInBounds_toArray, List.set_cons_zero, List.set_cons_succ]
      refine ready2t (i := 1) (j := 7) (d := some 17) (d' := some 23) (by kernel_rfl) (by kernel_rfl) (by kernel_rfl) ?_ ?_
      ·
        intro o ho hod K hK; simp only [List.getElem?_toArray, List.getElem?_cons_succ, List.getElem?_cons_zero, Option.some.injEq] at ho; subst ho
        go_simp
        refine hK.out _ _ (HCS.out _ HL.out.low.drew (HL.out.ab.below (Below.refl _ _).drew HL.out.ab.lt).c0) (fun hHeld => ?_)
        clear hK K
        try simp only [Act.put, List.setIfInBounds_toArray, List.set_cons_zero, List.set_cons_succ]
        refine call1 (i := 7) (d := some 23) (by kernel_rfl) (by kernel_rfl) ?_
        intro o ho hod K hK; simp only [List.getElem?_toArray, List.getElem?_cons_succ, List.getElem?_cons_zero, Option.some.injEq] at ho; subst ho
        go_simp
        refine (HLF.out _ (Below.refl _ _).drew).mono ?_
        rintro e w1 ⟨p, pc, rfl, b1, p1, p2, hwr⟩
        have b1' : Below wr.heap.size wr w1 := ⟨b1.os, b1.tape, b1.output, b1.size, b1.block⟩
        have L1 := HL.out.below b1'
        have L2 := L1.below ((Below.refl w1.heap.size w1).alloc (Nat.le_refl _) (.cells #[.slice (some ⟨p, 0, none⟩) np pc, .bool yf, .int .i64 yr, .int .i64 yq, .string yv] 69))
        obtain ⟨q', cap', w3, happ, l3, A3, O3, h5⟩ := HST.out w1 p pc b1' p1 p2 hwr
        have HI5 := hid h5
        refine hK.out _ _ (HCS.out _ L1.low L1.ab.c0) (fun hHeld => ?_)
        clear hK K
        try simp only [Act.put, List.setIfInBounds_toArray, List.set_cons_zero, List.set_cons_succ]
        refine call1 (i := 8) (d := some 24) (by kernel_rfl) (by kernel_rfl) ?_
        intro o ho hod K hK; simp only [List.getElem?_toArray, List.getElem?_cons_succ, List.getElem?_cons_zero, Option.some.injEq] at ho; subst ho
        go_simp
        refine hK.out _ _ (HCS.out _ L2.low L2.ab.c0) (fun hHeld => ?_)
        clear hK K
        try simp only [Act.put, List.setIfInBounds_toArray, List.set_cons_zero, List.set_cons_succ]
        refine call1 (i := 9) (d := some 25) (by kernel_rfl) (by kernel_rfl) ?_
        intro o ho hod K hK; simp only [List.getElem?_toArray, List.getElem?_cons_succ, List.getElem?_cons_zero, Option.some.injEq] at ho; subst ho
        refine wp_app2 _ _ _ _ rfl happ (by rfl) (by rfl) rfl ?_
        refine hK.out _ _ (HCS.out _ l3 A3.c0) (fun hHeld => ?_)
        clear hK K
        try simp only [Act.put, List.setIfInBounds_toArray, List.set_cons_zero, List.set_cons_succ]
        refine take1 (i := 10) (d := some 26) (v := ?_) (by kernel_rfl) (by kernel_rfl) (by kernel_rfl) (by kernel_rfl) (fun _ _ _ h => h) ?_ hHeld ?_
        rotate_left
        · (intro o ho; simp only [List.getElem?_toArray, List.getElem?_cons_succ, List.getElem?_cons_zero, Option.some.injEq] at ho; subst ho; refine Or.inl ⟨by rfl, ?_⟩; intro w hSw; (try dsimp only at hSw); go_simp; try with_reducible rfl)
        try simp only [Act.put, List.setIfInBounds_toArray, List.set_cons_zero, List.set_cons_succ]
        have t0 := O3.c0
        have tf := O3.f
        refine call1 (i := 11) (d := none) (by kernel_rfl) (by kernel_rfl) ?_
        intro o ho hod K hK; simp only [List.getElem?_toArray, List.getElem?_cons_succ, List.getElem?_cons_zero, Option.some.injEq] at ho; subst ho
        go_simp
        obtain ⟨_, _, _, _, h6⟩ := HI5.out
        refine hK.out _ _ (HCS.out _ h6.low h6.ab.c0) (fun hHeld => ?_)
        clear hK K
        try simp only [Act.put, List.setIfInBounds_toArray, List.set_cons_zero, List.set_cons_succ]
        refine wpAnyH_done (by kernel_rfl) ?_ _
        clear hHeld b1 b1' L1 L2 happ l3 A3 O3 h5 h6 t0 tf hwr p1 p2 HST HLF HC HCS
        go_wp2_with fail
        go_roundw
        case rel => exact ⟨j + 1, hlt, by go_num, HI5⟩
        case measure => simp [intOf]; omega
      ·
        intro o ho hod K hK; simp only [List.getElem?_toArray, List.getElem?_cons_succ, List.getElem?_cons_zero, Option.some.injEq] at ho; subst ho
        go_simp
        refine (HLF.out _ (Below.refl _ _).drew).mono ?_
        rintro e w1 ⟨p, pc, rfl, b1, p1, p2, hwr⟩
        have b1' : Below wr.heap.size wr w1 := ⟨b1.os, b1.tape, b1.output, b1.size, b1.block⟩
        have L1 := HL.out.below b1'
        have L2 := L1.below ((Below.refl w1.heap.size w1).alloc (Nat.le_refl _) (.cells #[.slice (some ⟨p, 0, none⟩) np pc, .bool yf, .int .i64 yr, .int .i64 yq, .string yv] 69))
        obtain ⟨q', cap', w3, happ, l3, A3, O3, h5⟩ := HST.out w1 p pc b1' p1 p2 hwr
        have HI5 := hid h5
        refine hK.out _ _ (HCS.out _ L1.low L1.ab.c0) (fun hHeld => ?_)
        clear hK K
        try simp only [Act.put, List.setIfInBounds_toArray, List.set_cons_zero, List.set_cons_succ]
        refine ready2t (i := 1) (j := 8) (d := some 17) (d' := some 24) (by kernel_rfl) (by kernel_rfl) (by kernel_rfl) ?_ ?_
        ·
          have t0 := L1.ob.c0
          intro o ho hod K hK; simp only [List.getElem?_toArray, List.getElem?_cons_succ, List.getElem?_cons_zero, Option.some.injEq] at ho; subst ho
          go_simp
          refine hK.out _ _ (HCS.out _ L1.low L1.ab.c0) (fun hHeld => ?_)
          clear hK K
          try simp only [Act.put, List.setIfInBounds_toArray, List.set_cons_zero, List.set_cons_succ]
          clear t0
          refine call1 (i := 8) (d := some 24) (by kernel_rfl) (by kernel_rfl) ?_
          intro o ho hod K hK; simp only [List.getElem?_toArray, List.getElem?_cons_succ, List.getElem?_cons_zero, Option.some.injEq] at ho; subst ho
          go_simp
          refine hK.out _ _ (HCS.out _ L2.low L2.ab.c0) (fun hHeld => ?_)
          clear hK K
          try simp only [Act.put, List.setIfInBounds_toArray, List.set_cons_zero, List.set_cons_succ]
          refine call1 (i := 9) (d := some 25) (by kernel_rfl) (by kernel_rfl) ?_
          intro o ho hod K hK; simp only [List.getElem?_toArray, List.getElem?_cons_succ, List.getElem?_cons_zero, Option.some.injEq] at ho; subst ho
          refine wp_app2 _ _ _ _ rfl happ (by rfl) (by rfl) rfl ?_
          refine hK.out _ _ (HCS.out _ l3 A3.c0) (fun hHeld => ?_)
          clear hK K
          try simp only [Act.put, List.setIfInBounds_toArray, List.set_cons_zero, List.set_cons_succ]
          refine take1 (i := 10) (d := some 26) (v := ?_) (by kernel_rfl) (by kernel_rfl) (by kernel_rfl) (by kernel_rfl) (fun _ _ _ h => h) ?_ hHeld ?_
          rotate_left
          · (intro o ho; simp only [List.getElem?_toArray, List.getElem?_cons_succ, List.getElem?_cons_zero, Option.some.injEq] at ho; subst ho; refine Or.inl ⟨by rfl, ?_⟩; intro w hSw; (try dsimp only at hSw); go_simp; try with_reducible rfl)
          try simp only [Act.put, List.setIfInBounds_toArray, List.set_cons_zero, List.set_cons_succ]
          have t0 := O3.c0
          have tf := O3.f
          refine call1 (i := 11) (d := none) (by kernel_rfl) (by kernel_rfl) ?_
          intro o ho hod K hK; simp only [List.getElem?_toArray, List.getElem?_cons_succ, List.getElem?_cons_zero, Option.some.injEq] at ho; subst ho
          go_simp
          obtain ⟨_, _, _, _, h6⟩ := HI5.out
          refine hK.out _ _ (HCS.out _ h6.low h6.ab.c0) (fun hHeld => ?_)
          clear hK K
          try simp only [Act.put, List.setIfInBounds_toArray, List.set_cons_zero, List.set_cons_succ]
          refine wpAnyH_done (by kernel_rfl) ?_ _
          clear hHeld b1 b1' L1 L2 happ l3 A3 O3 h5 h6 t0 tf hwr p1 p2 HST HLF HC HCS
          go_wp2_with fail
          go_roundw
          case rel => exact ⟨j + 1, hlt, by go_num, HI5⟩
          case measure => simp [intOf]; omega
        ·
          intro o ho hod K hK; simp only [List.getElem?_toArray, List.getElem?_cons_succ, List.getElem?_cons_zero, Option.some.injEq] at ho; subst ho
          go_simp
          refine hK.out _ _ (HCS.out _ L2.low L2.ab.c0) (fun hHeld => ?_)
          clear hK K
          try simp only [Act.put, List.setIfInBounds_toArray, List.set_cons_zero, List.set_cons_succ]
          have t0 := L2.ob.c0
          refine call1 (i := 1) (d := some 17) (by kernel_rfl) (by kernel_rfl) ?_
          intro o ho hod K hK; simp only [List.getElem?_toArray, List.getElem?_cons_succ, List.getElem?_cons_zero, Option.some.injEq] at ho; subst ho
          go_simp
          refine hK.out _ _ (HCS.out _ L2.low L2.ab.c0) (fun hHeld => ?_)
          clear hK K
          try simp only [Act.put, List.setIfInBounds_toArray, List.set_cons_zero, List.set_cons_succ]
          clear t0
          refine call1 (i := 9) (d := some 25) (by kernel_rfl) (by kernel_rfl) ?_
          intro o ho hod K hK; simp only [List.getElem?_toArray, List.getElem?_cons_succ, List.getElem?_cons_zero, Option.some.injEq] at ho; subst ho
          refine wp_app2 _ _ _ _ rfl happ (by rfl) (by rfl) rfl ?_
          refine hK.out _ _ (HCS.out _ l3 A3.c0) (fun hHeld => ?_)
          clear hK K
          try simp only [Act.put, List.setIfInBounds_toArray, List.set_cons_zero, List.set_cons_succ]
          refine take1 (i := 10) (d := some 26) (v := ?_) (by kernel_rfl) (by kernel_rfl) (by kernel_rfl) (by kernel_rfl) (fun _ _ _ h => h) ?_ hHeld ?_
          rotate_left
          · (intro o ho; simp only [List.getElem?_toArray, List.getElem?_cons_succ, List.getElem?_cons_zero, Option.some.injEq] at ho; subst ho; refine Or.inl ⟨by rfl, ?_⟩; intro w hSw; (try dsimp only at hSw); go_simp; try with_reducible rfl)
          try simp only [Act.put, List.setIfInBounds_toArray, List.set_cons_zero, List.set_cons_succ]
          have t0 := O3.c0
          have tf := O3.f
          refine call1 (i := 11) (d := none) (by kernel_rfl) (by kernel_rfl) ?_
          intro o ho hod K hK; simp only [List.getElem?_toArray, List.getElem?_cons_succ, List.getElem?_cons_zero, Option.some.injEq] at ho; subst ho
          go_simp
          obtain ⟨_, _, _, _, h6⟩ := HI5.out
          refine hK.out _ _ (HCS.out _ h6.low h6.ab.c0) (fun hHeld => ?_)
          clear hK K
          try simp only [Act.put, List.setIfInBounds_toArray, List.set_cons_zero, List.set_cons_succ]
          refine wpAnyH_done (by kernel_rfl) ?_ _
          clear hHeld b1 b1' L1 L2 happ l3 A3 O3 h5 h6 t0 tf hwr p1 p2 HST HLF HC HCS
          go_wp2_with fail
          go_roundw
          case rel => exact ⟨j + 1, hlt, by go_num, HI5⟩
          case measure => simp [intOf]; omega
    · obtain rfl : j = S.l.length := by omega
      obtain ⟨i0, hi0, hz0, hz1, hz2⟩ := info_parts Tryz.infoRun
      have hRN : RSeg wr (some ⟨k, 0, none⟩) S.n S.R S.F S.T := HRN.out.below HL.out.low
      have hob := HL.out.ob.lt
      obtain ⟨q2, cap2, w5, happ, ho5, hgr5, hq5⟩ := copyRowE 32 71 i0 _ 3 24 Tryz.underlying32 hi0 hz0 hz1 hz2 rfl (by decide) (by omega) (w.heap.size + 1 + 1 + 1) k 0 S.n d (fun j => if j % 3 = 0 then .int .i64 (S.R (j / 3)) else if j % 3 = 1 then .int .i64 (S.F (j / 3)) else .int .i64 (S.T (j / 3))) wr (w.heap.size + 1 + 1 + 1) hm.n1 HL.out.rn (by omega) (fun j hj => by
        obtain ⟨b, off, e, _, c0, c1, c2⟩ := hRN.at (k := j / 3) (by omega)
        have e1 : k = b := congrArg Addr.block (Option.some.inj e)
        have e2 : 0 = off := congrArg Addr.off (Option.some.inj e)
        rw [← e1, ← e2] at c0 c1 c2
        by_cases m0 : j % 3 = 0
        · rw [if_pos m0]; rw [show 0 + j = 0 + j / 3 * 3 by omega]; exact c0
        · by_cases m1 : j % 3 = 1
          · rw [if_neg m0, if_pos m1]; rw [show 0 + j = 0 + j / 3 * 3 + 1 by omega]; exact c1
          · rw [if_neg m0, if_neg m1]; rw [show 0 + j = 0 + j / 3 * 3 + 2 by omega]; exact c2) (fun j _ => by split; rfl; split <;> rfl)
      have hblk : ∀ b, b < wr.heap.size → b ≠ w.heap.size + 1 + 1 + 1 → w5.heap[b]? = wr.heap[b]? := fun b hb1 hb2 => hgr5.block b hb1 (fun e => hb2 (by injection e))
      have hat : ∀ {b : Nat} {u0 u1 : Value}, Bx2 wr b u0 u1 → b ≠ w.heap.size + 1 + 1 + 1 → Bx2 w5 b u0 u1 := fun {b u0 u1} hB hne => ⟨(World.cell?_of_block (a := ⟨b, 0, none⟩) (hblk b hB.lt hne)).trans hB.c0, (World.cell?_of_block (a := ⟨b, 1, none⟩) (hblk b hB.lt hne)).trans hB.c1, fun i => (World.frozen?_of_block (a := ⟨b, i, none⟩) (hblk b hB.lt hne)).trans (hB.f i), by have := hB.lt; have := hgr5.size; omega⟩
      have O5 := hat HL.out.ob (by omega)
      have R5 := hat HL.out.rb (by omega)
      have b0 := O5.c0
      have b1 := O5.c1
      have bf := O5.f
      have r0 := R5.c0
      have r1 := R5.c1
      have rf := R5.f
      have HBK := hid hblk
      have HO5 := hid ho5
      have HGR := hid hgr5
      have HQ5 := hid hq5
      have HZ5 : Hid (wr.heap.size ≤ w5.heap.size) := hid hgr5.size
      clear ho5 hgr5 hq5 hblk hat O5 R5 hRN
      go_wp2_with (at_builtin; refine wpList_app2 rfl _ _ _ _ rfl happ (by rfl) (by rfl) rfl ?_; clear happ)
      have hz5 := HZ5.out
      have hq5 := HQ5.out
      have hq1 := HL.out.q1
      have hsame : ∀ (v0 v1 v2 : Value) (b : Nat), b < wr.heap.size → (b = q ∨ w.heap.size + 5 ≤ b) → (((w5.setCell ⟨w.heap.size + 1 + 1 + 1 + 1, 1, none⟩ v0).setCell ⟨w.heap.size + 1, 0, none⟩ v1).setCell ⟨w.heap.size + 1, 1, none⟩ v2).heap[b]? = wr.heap[b]? := fun v0 v1 v2 b h1 h2 => by
        rw [Below.heap_setCell _ _ _ _ (by simp; omega), Below.heap_setCell _ _ _ _ (by simp; omega), Below.heap_setCell _ _ _ _ (by simp; omega)]
        exact HBK.out b h1 (by omega)
      have low5 : Below w.heap.size w w5 := HL.out.low.grown HGR.out HL.out.low.size (fun k e => by injection e with e; omega)
      refine bodyPost_ret (v := .agg #[.slice (some ⟨q, 0, none⟩) S.l.length cap, .slice (some ⟨q2, 0, none⟩) S.n cap2]) (by simp [results, Tryz.results35, go_sem, r0, r1]) rfl ⟨_, _, _, _, rfl, fun w'' hs hq => ⟨?_, ?_⟩, ?_⟩
      · have hs' : w5.heap.size ≤ w''.heap.size := by simpa [World.setCell] using hs
        exact HL.out.seg (by omega) (fun b h1 h2 => (hq b (by omega) (by simp [World.setCell]; omega)).trans (hsame _ _ _ b h1 h2))
      · have hw5 := own_wrF HO5.out
        have hl5 := hw5.lt
        refine rn_of (hw5.same ((hq q2 (by omega) (by simp [World.setCell]; exact hl5)).trans ?_))
        rw [Below.heap_setCell _ _ _ _ (by simp; omega), Below.heap_setCell _ _ _ _ (by simp; omega), Below.heap_setCell _ _ _ _ (by simp; omega)]
      · exact ((low5.setCell (by simp; omega) _).setCell (by simp) _).setCell (by simp) _

set_option maxRecDepth 100000 in
set_option maxHeartbeats 2000000 in
theorem l6CopyC (id : Int) (g k g' k' lo mid hi c d c' d' : Nat) (S S' : Sx) (w : World) (hm : S.Sm) (hm' : S'.Sm) (h : SNw w lo mid g k S) (h' : SNw w mid hi g' k' S') :
    Calls Tryz.prog 18 #[.agg #[.int .i64 id, .slice (some ⟨g, 0, none⟩) S.l.length c, .slice (some ⟨k, 0, none⟩) S.n d, .slice (some ⟨g', 0, none⟩) S'.l.length c', .slice (some ⟨k', 0, none⟩) S'.n d']] w fun e w' => ∃ a ca x dx a' ca' x' dx', e = .returned (.agg #[.int .i64 id, .slice a S.l.length ca, .slice x S.n dx, .slice a' S'.l.length ca', .slice x' S'.n dx']) ∧ SNu w' w.heap.size a x S ∧ SNu w' w.heap.size a' x' S' ∧ Below w.heap.size w w' := by
  obtain ⟨W, hW⟩ : ∃ W, (w.alloc (.cells #[.int .i64 id, .slice (some ⟨g, 0, none⟩) S.l.length c, .slice (some ⟨k, 0, none⟩) S.n d, .slice (some ⟨g', 0, none⟩) S'.l.length c', .slice (some ⟨k', 0, none⟩) S'.n d'] 38)).alloc (.cells #[.int .i64 0, .slice none 0 0, .slice none 0 0, .slice none 0 0, .slice none 0 0] 38) = W := ⟨_, rfl⟩
  have b0 : Below w.heap.size w W := by rw [← hW]; exact below2 _ _ _
  have B0 : Bx5 W w.heap.size (.int .i64 id) (.slice (some ⟨g, 0, none⟩) S.l.length c) (.slice (some ⟨k, 0, none⟩) S.n d) (.slice (some ⟨g', 0, none⟩) S'.l.length c') (.slice (some ⟨k', 0, none⟩) S'.n d') := by rw [← hW]; exact (Bx5.new _ _ _ _ _ _ _).up _
  have F0 : Bx5 W (w.heap.size + 1) (.int .i64 0) (.slice none 0 0) (.slice none 0 0) (.slice none 0 0) (.slice none 0 0) := by
    rw [← hW]
    have := Bx5.new (w.alloc (.cells #[.int .i64 id, .slice (some ⟨g, 0, none⟩) S.l.length c, .slice (some ⟨k, 0, none⟩) S.n d, .slice (some ⟨g', 0, none⟩) S'.l.length c', .slice (some ⟨k', 0, none⟩) S'.n d'] 38)) (.int .i64 0) (.slice none 0 0) (.slice none 0 0) (.slice none 0 0) (.slice none 0 0) 38
    simpa using this
  have HC1 : Hid (∀ w1, Below w.heap.size w w1 → Calls Tryz.prog 35 #[.agg #[.slice (some ⟨g, 0, none⟩) S.l.length c, .slice (some ⟨k, 0, none⟩) S.n d]] w1 fun e w' => ∃ a c' x d', e = .returned (.agg #[.slice a S.l.length c', .slice x S.n d']) ∧ SNu w' w1.heap.size a x S ∧ Below w1.heap.size w1 w') := hid (fun w1 hb => l3CopyC g k lo mid c d S w1 hm (h.below hb))
  have HC2 : Hid (∀ w1, Below w.heap.size w w1 → Calls Tryz.prog 35 #[.agg #[.slice (some ⟨g', 0, none⟩) S'.l.length c', .slice (some ⟨k', 0, none⟩) S'.n d']] w1 fun e w' => ∃ a c' x d', e = .returned (.agg #[.slice a S'.l.length c', .slice x S'.n d']) ∧ SNu w' w1.heap.size a x S' ∧ Below w1.heap.size w1 w') := hid (fun w1 hb => l3CopyC g' k' mid hi c' d' S' w1 hm' (h'.below hb))
  have HB0 := hid b0
  have HX := hid B0
  have HF := hid F0
  have q0 := B0.c0
  have q1 := B0.c1
  have q2 := B0.c2
  have q3 := B0.c3
  have q4 := B0.c4
  clear h h' b0 B0 F0
  go_enter Tryz.func18, Tryz.ntmps18
  go_wp2_with fail
  try rw [hW]
  clear hW
  have HCS : Hid (∀ w', Below w.heap.size w w' → Bx5 w' w.heap.size (.int .i64 id) (.slice (some ⟨g, 0, none⟩) S.l.length c) (.slice (some ⟨k, 0, none⟩) S.n d) (.slice (some ⟨g', 0, none⟩) S'.l.length c') (.slice (some ⟨k', 0, none⟩) S'.n d') → (Below w.heap.size w w' ∧ w'.cell? ⟨w.heap.size, 0, none⟩ = some (.int .i64 id) ∧ w'.cell? ⟨w.heap.size, 1, none⟩ = some (.slice (some ⟨g, 0, none⟩) S.l.length c) ∧ w'.cell? ⟨w.heap.size, 2, none⟩ = some (.slice (some ⟨k, 0, none⟩) S.n d) ∧ w'.cell? ⟨w.heap.size, 3, none⟩ = some (.slice (some ⟨g', 0, none⟩) S'.l.length c') ∧ w'.cell? ⟨w.heap.size, 4, none⟩ = some (.slice (some ⟨k', 0, none⟩) S'.n d'))) := hid (fun w' hB X => ⟨hB, X.c0, X.c1, X.c2, X.c3, X.c4⟩)
  refine wp_region_held_drew (S := fun w' => Below w.heap.size w w' ∧ w'.cell? ⟨w.heap.size, 0, none⟩ = some (.int .i64 id) ∧ w'.cell? ⟨w.heap.size, 1, none⟩ = some (.slice (some ⟨g, 0, none⟩) S.l.length c) ∧ w'.cell? ⟨w.heap.size, 2, none⟩ = some (.slice (some ⟨k, 0, none⟩) S.n d) ∧ w'.cell? ⟨w.heap.size, 3, none⟩ = some (.slice (some ⟨g', 0, none⟩) S'.l.length c') ∧ w'.cell? ⟨w.heap.size, 4, none⟩ = some (.slice (some ⟨k', 0, none⟩) S'.n d')) (by kernel_rfl) (HCS.out _ HB0.out.drew (HX.out.below (Below.refl _ _).drew HX.out.lt)) (fun hHeld => ?_)
  refine take1 (i := 0) (d := some 3) (v := ?_) (by kernel_rfl) (by kernel_rfl) (by kernel_rfl) (by kernel_rfl) (fun _ _ _ h => h) ?_ hHeld ?_
  rotate_left
  · (intro o ho; simp only [List.getElem?_toArray, List.getElem?_cons_succ, List.getElem?_cons_zero, Option.some.injEq] at ho; subst ho; refine Or.inl ⟨by rfl, ?_⟩; intro w hSw; (try dsimp only at hSw); go_simp; try with_reducible rfl)
  try simp only [Act.put, List.setIfInBounds_toArray, List.set_cons_zero, List.set_cons_succ]
  refine take1 (i := 1) (d := some 4) (v := ?_) (by kernel_rfl) (by kernel_rfl) (by kernel_rfl) (by kernel_rfl) (fun _ _ _ h => h) ?_ hHeld ?_
  rotate_left
  · (intro o ho; simp only [List.getElem?_toArray, List.getElem?_cons_succ, List.getElem?_cons_zero, Option.some.injEq] at ho; subst ho; refine Or.inl ⟨by rfl, ?_⟩; intro w hSw; (try dsimp only at hSw); go_simp; try with_reducible rfl)
  try simp only [Act.put, List.setIfInBounds_toArray, List.set_cons_zero, List.set_cons_succ]
  refine take1 (i := 2) (d := some 5) (v := ?_) (by kernel_rfl) (by kernel_rfl) (by kernel_rfl) (by kernel_rfl) (fun _ _ _ h => h) ?_ hHeld ?_
  rotate_left
  · (intro o ho; simp only [List.getElem?_toArray, List.getElem?_cons_succ, List.getElem?_cons_zero, Option.some.injEq] at ho; subst ho; refine Or.inl ⟨by rfl, ?_⟩; intro w hSw; (try dsimp only at hSw); go_simp; try with_reducible rfl)
  try simp only [Act.put, List.setIfInBounds_toArray, List.set_cons_zero, List.set_cons_succ]
  refine take1 (i := 3) (d := some 6) (v := ?_) (by kernel_rfl) (by kernel_rfl) (by kernel_rfl) (by kernel_rfl) (fun _ _ _ h => h) ?_ hHeld ?_
  rotate_left
  · (intro o ho; simp only [List.getElem?_toArray, List.getElem?_cons_succ, List.getElem?_cons_zero, Option.some.injEq] at ho; subst ho; refine Or.inl ⟨by rfl, ?_⟩; intro w hSw; (try dsimp only at hSw); go_simp; try with_reducible rfl)
  try simp only [Act.put, List.setIfInBounds_toArray, List.set_cons_zero, List.set_cons_succ]
  refine take1 (i := 5) (d := some 8) (v := ?_) (by kernel_rfl) (by kernel_rfl) (by kernel_rfl) (by kernel_rfl) (fun _ _ _ h => h) ?_ hHeld ?_
  rotate_left
  · (intro o ho; simp only [List.getElem?_toArray, List.getElem?_cons_succ, List.getElem?_cons_zero, Option.some.injEq] at ho; subst ho; refine Or.inl ⟨by rfl, ?_⟩; intro w hSw; (try dsimp only at hSw); go_simp; try with_reducible rfl)
  try simp only [Act.put, List.setIfInBounds_toArray, List.set_cons_zero, List.set_cons_succ]
  refine take1 (i := 6) (d := some 9) (v := ?_) (by kernel_rfl) (by kernel_rfl) (by kernel_rfl) (by kernel_rfl) (fun _ _ _ h => h) ?_ hHeld ?_
  rotate_left
  · (intro o ho; simp only [List.getElem?_toArray, List.getElem?_cons_succ, List.getElem?_cons_zero, Option.some.injEq] at ho; subst ho; refine Or.inl ⟨by rfl, ?_⟩; intro w hSw; (try dsimp only at hSw); go_simp; try with_reducible rfl)
  try simp only [Act.put, List.setIfInBounds_toArray, List.set_cons_zero, List.set_cons_succ]
  refine call1 (i := 4) (d := some 7) (by kernel_rfl) (by kernel_rfl) ?_
  intro o ho hod K hK; simp only [List.getElem?_toArray, List.getElem?_cons_succ, List.getElem?_cons_zero, Option.some.injEq] at ho; subst ho
  go_simp
  refine (HC1.out _ hHeld.1).mono ?_
  rintro e w1 ⟨a, ca, x, dx, rfl, s1, b1⟩
  have b1' : Below W.heap.size W w1 := ⟨b1.os, b1.tape, b1.output, b1.size, b1.block⟩
  have hB1 := keepS HB0.out b1'
  have X1 := HX.out.below b1' HX.out.lt
  have F1 := HF.out.below b1' HF.out.lt
  have s1' : SNu w1 W.heap.size a x S := s1
  refine hK.out _ _ (HCS.out _ hB1 X1) (fun hHeld => ?_)
  clear hK K
  try simp only [Act.put, List.setIfInBounds_toArray, List.set_cons_zero, List.set_cons_succ]
  refine call1 (i := 7) (d := some 10) (by kernel_rfl) (by kernel_rfl) ?_
  intro o ho hod K hK; simp only [List.getElem?_toArray, List.getElem?_cons_succ, List.getElem?_cons_zero, Option.some.injEq] at ho; subst ho
  go_simp
  refine (HC2.out _ hB1).mono ?_
  rintro e w2 ⟨a', ca', x', dx', rfl, s2, b2⟩
  have hB2 := keepS hB1 b2
  have X2 := X1.below b2 X1.lt
  have F2 := F1.below b2 F1.lt
  have s12 := s1'.below b2
  refine hK.out _ _ (HCS.out _ hB2 X2) (fun hHeld => ?_)
  clear hK K
  try simp only [Act.put, List.setIfInBounds_toArray, List.set_cons_zero, List.set_cons_succ]
  refine take1 (i := 8) (d := some 11) (v := ?_) (by kernel_rfl) (by kernel_rfl) (by kernel_rfl) (by kernel_rfl) (fun _ _ _ h => h) ?_ hHeld ?_
  rotate_left
  · (intro o ho; simp only [List.getElem?_toArray, List.getElem?_cons_succ, List.getElem?_cons_zero, Option.some.injEq] at ho; subst ho; refine Or.inl ⟨by rfl, ?_⟩; intro w hSw; (try dsimp only at hSw); go_simp; try with_reducible rfl)
  try simp only [Act.put, List.setIfInBounds_toArray, List.set_cons_zero, List.set_cons_succ]
  have f0 := F2.c0
  have f1 := F2.c1
  have f2 := F2.c2
  have f3 := F2.c3
  have f4 := F2.c4
  have ff := F2.f
  refine call1 (i := 9) (d := none) (by kernel_rfl) (by kernel_rfl) ?_
  intro o ho hod K hK; simp only [List.getElem?_toArray, List.getElem?_cons_succ, List.getElem?_cons_zero, Option.some.injEq] at ho; subst ho
  go_simp
  have hzW : w.heap.size + 1 < W.heap.size := HF.out.lt
  have hz1 : W.heap.size ≤ w1.heap.size := b1'.size
  have hz2 : w1.heap.size ≤ w2.heap.size := b2.size
  refine hK.out _ _ (HCS.out _ ((((((hB2.setCell (by simp) _).setCell (by simp) _).setCell (by simp) _).setCell (by simp) _).setCell (by simp) _)) (((((X2.setAt _ _ (by simp)).setAt _ _ (by simp)).setAt _ _ (by simp)).setAt _ _ (by simp)).setAt _ _ (by simp))) (fun hHeld => ?_)
  clear hK K
  try simp only [Act.put, List.setIfInBounds_toArray, List.set_cons_zero, List.set_cons_succ]
  refine wpAnyH_done (by kernel_rfl) ?_ _
  go_wp2_with fail
  refine bodyPost_ret (v := .agg #[.int .i64 id, .slice a S.l.length ca, .slice x S.n dx, .slice a' S'.l.length ca', .slice x' S'.n dx']) (by simp [results, Tryz.results18, go_sem, f0, f1, f2, f3, f4]) rfl ⟨a, ca, x, dx, a', ca', x', ⟨dx', rfl⟩, ?_, ?_, ?_⟩
  · refine SNu.move (lo := W.heap.size) ?_ (by omega) (Nat.le_refl _) (fun _ _ _ => rfl)
    repeat (refine SNu.set ?_ _ _ (by simp; omega))
    exact s12
  · refine SNu.move (lo := w1.heap.size) ?_ (by omega) (Nat.le_refl _) (fun _ _ _ => rfl)
    repeat (refine SNu.set ?_ _ _ (by simp; omega))
    exact s2
  · repeat (refine Below.setCell ?_ (by simp) _)
    exact hB2
end Go.Proofs.YtdenbicnckkdfaaGreat
