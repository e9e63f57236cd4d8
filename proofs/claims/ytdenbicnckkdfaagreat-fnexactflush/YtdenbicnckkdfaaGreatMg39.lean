import Derived.Test.YtdenbicnckkdfaaGreatMg17
import Derived.Test.YtdenbicnckkdfaaGreatMg11
import Derived.Test.YtdenbicnckkdfaaGreatMg38
namespace Go.Proofs.YtdenbicnckkdfaaGreat
open Go.ChangeShapes Go.WideShapes Go.ChangeAt Go.RowKit Go.Deep
set_option linter.unusedVariables false
set_option linter.unusedSimpArgs false

structure Sx where
  l : List Lf
  n : Nat
  R : Nat → Int
  F : Nat → Int
  T : Nat → Int
structure Sx.Big (S : Sx) : Prop where
  l1 : S.l.length ≤ 9223372036854775807
  b1 : ∀ i, LfBig (gL S.l i)
  i1 : ∀ i, LfI (gL S.l i)
  n1 : S.n ≤ 9223372036854775807
structure Sx.Sm (S : Sx) : Prop where
  l1 : S.l.length ≤ 1048576
  p1 : LBd S.l
  n1 : S.n ≤ 1048576

structure SAt (w : World) (a x : Option Addr) (S : Sx) : Prop where
  lf : LSeg w a S.l
  rn : RSeg w x S.n S.R S.F S.T
theorem SAt.below {w w' : World} {a x : Option Addr} {S : Sx} (h : SAt w a x S) (hb : Below w.heap.size w w') : SAt w' a x S := ⟨h.lf.below hb, h.rn.below hb⟩

structure SNw (w : World) (lo hi g k : Nat) (S : Sx) : Prop where
  cap : LNew w lo (some ⟨g, 0, none⟩) S.l
  rn : RSeg w (some ⟨k, 0, none⟩) S.n S.R S.F S.T
  lm : LMk w lo hi g S.l
  k1 : lo ≤ k
  k2 : k < hi
  ro : ∃ ys, w.ownsRow lo 71 3 (.slice (some ⟨k, 0, none⟩) S.n S.n) S.n ys
  hl : hi ≤ w.heap.size
theorem SNw.at {w : World} {lo hi g k : Nat} {S : Sx} (h : SNw w lo hi g k S) : SAt w (some ⟨g, 0, none⟩) (some ⟨k, 0, none⟩) S := ⟨h.cap.seg, h.rn⟩
theorem own_at5 {w w' : World} {B e size n : Nat} {v : Value} {xs : List Value} (h : w.ownsRow B e size v n xs) (hk : ∀ g, v.ownBlock = some g → w'.heap[g]? = w.heap[g]?) : w'.ownsRow B e size v n xs := by
  obtain ⟨q1, q2⟩ := h
  refine ⟨q1, ?_⟩
  rcases q2 with q2 | ⟨g, cap, cur, e, hbg, hb, r⟩
  · exact .inl q2
  · subst e; exact .inr ⟨g, cap, cur, rfl, hbg, (hk g rfl).trans hb, r⟩
theorem own_weak5 {w : World} {B C e size n : Nat} {v : Value} {xs : List Value} (h : w.ownsRow B e size v n xs) (hc : C ≤ B) : w.ownsRow C e size v n xs := by
  obtain ⟨q1, q2⟩ := h
  refine ⟨q1, ?_⟩
  rcases q2 with q2 | ⟨g, cap, cur, e, hbg, r⟩
  · exact .inl q2
  · exact .inr ⟨g, cap, cur, e, Nat.le_trans hc hbg, r⟩
theorem SNw.below {w w' : World} {lo hi g k : Nat} {S : Sx} (h : SNw w lo hi g k S) (hb : Below w.heap.size w w') : SNw w' lo hi g k S :=
  ⟨h.cap.below hb, h.rn.below hb, h.lm.same (fun q _ h2 => hb.block q (Nat.lt_of_lt_of_le h2 h.hl)), h.k1, h.k2, by obtain ⟨ys, ho⟩ := h.ro; exact ⟨ys, own_at5 ho fun q hq => hb.block q (ho.lt q hq).2⟩, Nat.le_trans h.hl hb.size⟩
theorem SNw.set {w : World} {lo hi g k : Nat} {S : Sx} (h : SNw w lo hi g k S) (q : Addr) (u : Value) (hq : q.block < lo) : SNw (w.setCell q u) lo hi g k S :=
  ⟨h.cap.set q u hq, h.rn.set q u (fun x hx => by injection hx with hx; subst hx; have := h.k1; simp; omega), h.lm.set q u hq, h.k1, h.k2, by obtain ⟨ys, ho⟩ := h.ro; exact ⟨ys, owns_set ho q u (by have := h.k1; omega)⟩, by simpa [World.setCell] using h.hl⟩
theorem SNw.wide {w : World} {lo hi g k lo' hi' : Nat} {S : Sx} (h : SNw w lo hi g k S) (h1 : lo' ≤ lo) (h2 : hi ≤ hi') (h3 : hi' ≤ w.heap.size) : SNw w lo' hi' g k S :=
  ⟨h.cap.move h1 (Nat.le_refl _) (fun _ _ _ => rfl), h.rn, h.lm.wide h1 h2, Nat.le_trans h1 h.k1, Nat.lt_of_lt_of_le h.k2 h2, by obtain ⟨ys, ho⟩ := h.ro; exact ⟨ys, own_weak5 ho h1⟩, h3⟩
theorem toSt (a x : Option Addr) (c d : Nat) (S : Sx) (w : World) (hm : S.Sm) (h : SAt w a x S) :
    Calls Tryz.prog 20 #[.agg #[.slice a S.l.length c, .slice x S.n d]] w fun e w' => ∃ g k, e = .returned (.agg #[.slice (some ⟨g, 0, none⟩) S.l.length S.l.length, .slice (some ⟨k, 0, none⟩) S.n S.n]) ∧ SNw w' w.heap.size w'.heap.size g k S ∧ Below w.heap.size w w' :=
  (toStateC a c S.l x S.n d S.R S.F S.T w hm.l1 hm.p1 hm.n1 h.lf h.rn).mono fun e w' ⟨g, k, h1, ⟨h2, h3⟩, h4, ⟨h5, h6⟩, he, h7, h8, h9⟩ => ⟨g, k, he, ⟨h7, h8, h3, h4, h5, h6, Nat.le_refl _⟩, h9⟩
theorem Bx5.new (w : World) (v0 v1 v2 v3 v4 : Value) (t : TypeId) : Bx5 (w.alloc (.cells #[v0, v1, v2, v3, v4] t)) w.heap.size v0 v1 v2 v3 v4 :=
  ⟨by simp, by simp, by simp, by simp, by simp, fun i => by simp, by simp⟩
theorem Bx5.up {w : World} {b : Nat} {v0 v1 v2 v3 v4 : Value} (h : Bx5 w b v0 v1 v2 v3 v4) (o : Obj) : Bx5 (w.alloc o) b v0 v1 v2 v3 v4 := h.below ((Below.refl w.heap.size w).alloc (Nat.le_refl _) o) h.lt

set_option maxRecDepth 100000 in
set_option maxHeartbeats 1000000 in
theorem szReplicaC (id : Int) (a x a' x' : Option Addr) (c d c' d' : Nat) (S S' : Sx) (w : World) (hb : S.Big) (hb' : S'.Big) (h : SAt w a x S) (h' : SAt w a' x' S') :
    Calls Tryz.prog 4 #[.agg #[.int .i64 id, .slice a S.l.length c, .slice x S.n d, .slice a' S'.l.length c', .slice x' S'.n d'], .int .i64 1048576] w fun e w' => (∃ k', e = .returned (.int .i64 k') ∧ (0 ≤ k' → S.Sm ∧ S'.Sm)) ∧ Below w.heap.size w w' := by
  obtain ⟨W, hW⟩ : ∃ W, w.alloc (.cells #[.int .i64 id, .slice a S.l.length c, .slice x S.n d, .slice a' S'.l.length c', .slice x' S'.n d'] 29) = W := ⟨_, rfl⟩
  have b0 : Below w.heap.size w W := by rw [← hW]; exact (Below.refl _ _).alloc (Nat.le_refl _) _
  have B0 : Bx5 W w.heap.size (.int .i64 id) (.slice a S.l.length c) (.slice x S.n d) (.slice a' S'.l.length c') (.slice x' S'.n d') := by rw [← hW]; exact Bx5.new _ _ _ _ _ _ _
  have HS1 := hid (szStateC a c S.l x S.n d 1048576 W (by omega) (by omega) hb.l1 hb.n1 hb.b1 (h.lf.below b0))
  have HS2 : Hid (∀ k w1, 0 ≤ k → k ≤ 1048576 → Below W.heap.size W w1 → Calls Tryz.prog 14 #[.agg #[.slice a' S'.l.length c', .slice x' S'.n d'], .int .i64 k] w1 fun e w' => (∃ k', e = .returned (.int .i64 k') ∧ -1 ≤ k' ∧ k' ≤ k ∧ (0 ≤ k' → (S'.l.length ≤ 1048576 ∧ ∀ i, LfSm (gL S'.l i)) ∧ S'.n ≤ 1048576)) ∧ Below w1.heap.size w1 w') := hid (fun k w1 h0 h1 hb1 => szStateC a' c' S'.l x' S'.n d' k w1 h0 h1 hb'.l1 hb'.n1 hb'.b1 (h'.lf.below (keepS b0 hb1)))
  have k0 := B0.c0
  have k1 := B0.c1
  have k2 := B0.c2
  have k3 := B0.c3
  have k4 := B0.c4
  have HB0 := hid b0
  have HX := hid B0
  clear b0 B0 h h' hb hb'
  go_enter Tryz.func4, Tryz.ntmps4
  go_wp2_with fail
  try rw [hW]
  clear hW
  refine HS1.out.mono ?_
  rintro e w1 ⟨⟨q, rfl, hq0, hq1, hsm⟩, b1⟩
  have X1 := HX.out.below b1 HX.out.lt
  have x3 := X1.c3
  have x4 := X1.c4
  have HB1 := hid (keepS HB0.out b1)
  have HSM := hid hsm
  by_cases hneg : q < 0
  · have d0 : decide (q < 0) = true := by simpa using hneg
    clear hsm X1 HX HS1 k0 k1 k2 k3 k4 b1
    go_wp2_with fail
    go_ret
    exact ⟨⟨_, rfl, fun h => by omega⟩, HB1.out⟩
  · have d0 : decide (q < 0) = false := by simpa using hneg
    have HC := hid (HS2.out q w1 (by omega) hq1 b1)
    clear hsm X1 HX HS1 k0 k1 k2 k3 k4 b1 HS2
    go_wp2_with fail
    refine HC.out.mono ?_
    rintro e w2 ⟨⟨q', rfl, hq0', hq1', hsm'⟩, b2⟩
    have HB2 := hid (keepS HB1.out b2)
    have HSM' := hid hsm'
    clear hsm' b2 HC x3 x4
    by_cases hneg' : q' < 0
    · have d1 : decide (q' < 0) = true := by simpa using hneg'
      go_wp2_with fail
      go_ret
      exact ⟨⟨_, rfl, fun h => by omega⟩, HB2.out⟩
    · have d1 : decide (q' < 0) = false := by simpa using hneg'
      go_wp2_with fail
      go_ret
      refine ⟨⟨_, rfl, fun h => ?_⟩, HB2.out⟩
      obtain ⟨⟨p1, p2⟩, p3⟩ := HSM.out (by omega)
      obtain ⟨⟨r1, r2⟩, r3⟩ := HSM'.out (by omega)
      exact ⟨⟨p1, fun i => (p2 i).1.1, p3⟩, ⟨r1, fun i => (r2 i).1.1, r3⟩⟩

set_option maxRecDepth 100000 in
set_option maxHeartbeats 1000000 in
theorem eqReplicaC (id : Int) (a x a' x' b y b' y' : Option Addr) (c d c' d' e f e' f' : Nat) (S S' : Sx) (w : World) (hm : S.Sm) (hm' : S'.Sm) (h : SAt w a x S) (h' : SAt w a' x' S') (k : SAt w b y S) (k' : SAt w b' y' S') :
    Calls Tryz.prog 8 #[.agg #[.int .i64 id, .slice a S.l.length c, .slice x S.n d, .slice a' S'.l.length c', .slice x' S'.n d'], .agg #[.int .i64 id, .slice b S.l.length e, .slice y S.n f, .slice b' S'.l.length e', .slice y' S'.n f']] w fun e w' => e = .returned (.bool true) ∧ Below w.heap.size w w' := by
  obtain ⟨W, hW⟩ : ∃ W, (w.alloc (.cells #[.int .i64 id, .slice a S.l.length c, .slice x S.n d, .slice a' S'.l.length c', .slice x' S'.n d'] 38)).alloc (.cells #[.int .i64 id, .slice b S.l.length e, .slice y S.n f, .slice b' S'.l.length e', .slice y' S'.n f'] 38) = W := ⟨_, rfl⟩
  have b0 : Below w.heap.size w W := by rw [← hW]; exact below2 _ _ _
  have X0 : Bx5 W w.heap.size (.int .i64 id) (.slice a S.l.length c) (.slice x S.n d) (.slice a' S'.l.length c') (.slice x' S'.n d') := by rw [← hW]; exact (Bx5.new _ _ _ _ _ _ _).up _
  have Y0 : Bx5 W (w.heap.size + 1) (.int .i64 id) (.slice b S.l.length e) (.slice y S.n f) (.slice b' S'.l.length e') (.slice y' S'.n f') := by
    rw [← hW]
    have := Bx5.new (w.alloc (.cells #[.int .i64 id, .slice a S.l.length c, .slice x S.n d, .slice a' S'.l.length c', .slice x' S'.n d'] 38)) (.int .i64 id) (.slice b S.l.length e) (.slice y S.n f) (.slice b' S'.l.length e') (.slice y' S'.n f') 38
    simpa using this
  have HE1 : Hid (∀ w1, Below W.heap.size W w1 → Calls Tryz.prog 25 #[.agg #[.slice a S.l.length c, .slice x S.n d], .agg #[.slice b S.l.length e, .slice y S.n f]] w1 fun e w' => e = .returned (.bool true) ∧ Below w1.heap.size w1 w') := hid (fun w1 hb1 => by
    have B := keepS b0 hb1
    exact eqStateC a b c e S.l x y S.n d f S.R S.F S.T w1 hm.l1 hm.p1 hm.n1 (h.lf.below B) (k.lf.below B) (h.rn.below B) (k.rn.below B))
  have HE2 : Hid (∀ w1, Below W.heap.size W w1 → Calls Tryz.prog 25 #[.agg #[.slice a' S'.l.length c', .slice x' S'.n d'], .agg #[.slice b' S'.l.length e', .slice y' S'.n f']] w1 fun e w' => e = .returned (.bool true) ∧ Below w1.heap.size w1 w') := hid (fun w1 hb1 => by
    have B := keepS b0 hb1
    exact eqStateC a' b' c' e' S'.l x' y' S'.n d' f' S'.R S'.F S'.T w1 hm'.l1 hm'.p1 hm'.n1 (h'.lf.below B) (k'.lf.below B) (h'.rn.below B) (k'.rn.below B))
  have p0 := X0.c0
  have p1 := X0.c1
  have p2 := X0.c2
  have q0 := Y0.c0
  have q1 := Y0.c1
  have q2 := Y0.c2
  have HX := hid X0
  have HY := hid Y0
  have HB0 := hid b0
  have did : (id == id) = true := by simp
  have did2 : (id != id) = false := by simp
  clear h h' k k' b0 X0 Y0
  go_enter Tryz.func8, Tryz.ntmps8
  go_wp2_with fail
  try rw [hW]
  clear hW
  refine (HE1.out W (Below.refl _ _)).mono ?_
  rintro e w1 ⟨rfl, b1⟩
  have X1 := HX.out.below b1 HX.out.lt
  have Y1 := HY.out.below b1 HY.out.lt
  have p3 := X1.c3
  have p4 := X1.c4
  have q3 := Y1.c3
  have q4 := Y1.c4
  have HC := hid (HE2.out w1 b1)
  have HB1 := hid (keepS HB0.out b1)
  clear b1 X1 Y1 p0 p1 p2 q0 q1 q2 HE1 HE2 HX HY
  go_wp2_with fail
  refine HC.out.mono ?_
  rintro e w2 ⟨rfl, b2⟩
  have HB2 := hid (keepS HB1.out b2)
  clear b2 p3 p4 q3 q4 HC
  go_wp2_with fail
  go_ret
  exact ⟨rfl, HB2.out⟩

set_option maxRecDepth 100000 in
set_option maxHeartbeats 2000000 in
theorem toReplicaC (id : Int) (a x a' x' : Option Addr) (c d c' d' : Nat) (S S' : Sx) (w : World) (hm : S.Sm) (hm' : S'.Sm) (h : SAt w a x S) (h' : SAt w a' x' S') :
    Calls Tryz.prog 6 #[.agg #[.int .i64 id, .slice a S.l.length c, .slice x S.n d, .slice a' S'.l.length c', .slice x' S'.n d']] w fun e w' => ∃ g k g' k' mid, e = .returned (.agg #[.int .i64 id, .slice (some ⟨g, 0, none⟩) S.l.length S.l.length, .slice (some ⟨k, 0, none⟩) S.n S.n, .slice (some ⟨g', 0, none⟩) S'.l.length S'.l.length, .slice (some ⟨k', 0, none⟩) S'.n S'.n]) ∧ SNw w' w.heap.size mid g k S ∧ SNw w' mid w'.heap.size g' k' S' ∧ Below w.heap.size w w' := by
  obtain ⟨W, hW⟩ : ∃ W, ((w.alloc (.cells #[.int .i64 id, .slice a S.l.length c, .slice x S.n d, .slice a' S'.l.length c', .slice x' S'.n d'] 29)).alloc (.cells #[.int .i64 0, .slice none 0 0, .slice none 0 0, .slice none 0 0, .slice none 0 0] 38)).alloc (.cells #[.int .i64 0, .slice none 0 0, .slice none 0 0, .slice none 0 0, .slice none 0 0] 38) = W := ⟨_, rfl⟩
  have b0 : Below w.heap.size w W := by rw [← hW]; exact (((Below.refl _ _).alloc (Nat.le_refl _) _).alloc (by simp) _).alloc (by simp; omega) _
  have A0 : Bx5 W w.heap.size (.int .i64 id) (.slice a S.l.length c) (.slice x S.n d) (.slice a' S'.l.length c') (.slice x' S'.n d') := by rw [← hW]; exact ((Bx5.new _ _ _ _ _ _ _).up _).up _
  have R0 : Bx5 W (w.heap.size + 1) (.int .i64 0) (.slice none 0 0) (.slice none 0 0) (.slice none 0 0) (.slice none 0 0) := by
    rw [← hW]
    have := (Bx5.new (w.alloc (.cells #[.int .i64 id, .slice a S.l.length c, .slice x S.n d, .slice a' S'.l.length c', .slice x' S'.n d'] 29)) (.int .i64 0) (.slice none 0 0) (.slice none 0 0) (.slice none 0 0) (.slice none 0 0) 38).up (.cells #[.int .i64 0, .slice none 0 0, .slice none 0 0, .slice none 0 0, .slice none 0 0] 38)
    simpa using this
  have O0 : Bx5 W (w.heap.size + 1 + 1) (.int .i64 0) (.slice none 0 0) (.slice none 0 0) (.slice none 0 0) (.slice none 0 0) := by
    rw [← hW]
    have := Bx5.new ((w.alloc (.cells #[.int .i64 id, .slice a S.l.length c, .slice x S.n d, .slice a' S'.l.length c', .slice x' S'.n d'] 29)).alloc (.cells #[.int .i64 0, .slice none 0 0, .slice none 0 0, .slice none 0 0, .slice none 0 0] 38)) (.int .i64 0) (.slice none 0 0) (.slice none 0 0) (.slice none 0 0) (.slice none 0 0) 38
    simpa using this
  have zW : Hid (W.heap.size = w.heap.size + 3) := hid (by rw [← hW]; simp)
  obtain ⟨W1, hW1⟩ : ∃ W1, W.setCell ⟨w.heap.size + 1 + 1, 0, none⟩ (.int .i64 id) = W1 := ⟨_, rfl⟩
  have b1 : Below w.heap.size w W1 := by rw [← hW1]; exact b0.setCell (by simp; omega) _
  have A1 : Bx5 W1 w.heap.size (.int .i64 id) (.slice a S.l.length c) (.slice x S.n d) (.slice a' S'.l.length c') (.slice x' S'.n d') := by rw [← hW1]; exact A0.setAt _ _ (by simp; omega)
  have R1 : Bx5 W1 (w.heap.size + 1) (.int .i64 0) (.slice none 0 0) (.slice none 0 0) (.slice none 0 0) (.slice none 0 0) := by rw [← hW1]; exact R0.setAt _ _ (by simp)
  have O1 : Bx5 W1 (w.heap.size + 1 + 1) (.int .i64 id) (.slice none 0 0) (.slice none 0 0) (.slice none 0 0) (.slice none 0 0) := by rw [← hW1]; exact O0.set0 _
  have z1 : Hid (W1.heap.size = w.heap.size + 3) := hid (by rw [← hW1]; simp [World.setCell]; exact zW.out)
  have HT1 := hid (toSt a x c d S W1 hm (h.below b1))
  have HT2 : Hid (∀ w2, Below w.heap.size w w2 → Calls Tryz.prog 20 #[.agg #[.slice a' S'.l.length c', .slice x' S'.n d']] w2 fun e w' => ∃ g k, e = .returned (.agg #[.slice (some ⟨g, 0, none⟩) S'.l.length S'.l.length, .slice (some ⟨k, 0, none⟩) S'.n S'.n]) ∧ SNw w' w2.heap.size w'.heap.size g k S' ∧ Below w2.heap.size w2 w') := hid (fun w2 hb => toSt a' x' c' d' S' w2 hm' (h'.below hb))
  have k0 := A0.c0
  have k1 := A0.c1
  have k2 := A0.c2
  have k3 := A0.c3
  have k4 := A0.c4
  have o0 := O0.c0
  have fo := O0.f
  have m1 := A1.c1
  have m2 := A1.c2
  have HB1 := hid b1
  have HA1 := hid A1
  have HR1 := hid R1
  have HO1 := hid O1
  clear b0 b1 A0 R0 O0 A1 R1 O1 h h'
  go_enter Tryz.func6, Tryz.ntmps6
  go_wp2_with fail
  try rw [hW]
  try rw [hW1]
  clear hW hW1 k0 k1 k2 k3 k4 o0 fo m1 m2
  refine HT1.out.mono ?_
  rintro e w2 ⟨g, k, rfl, s2, b2⟩
  have HS2 := hid s2
  have HB2 := hid (keepS HB1.out b2)
  have HA2 := hid (HA1.out.below b2 HA1.out.lt)
  have HR2 := hid (HR1.out.below b2 HR1.out.lt)
  have HO2 := hid (HO1.out.below b2 HO1.out.lt)
  have hz2 : Hid (w.heap.size + 3 ≤ w2.heap.size) := hid (by have := b2.size; have := z1.out; omega)
  obtain ⟨W3, hW3⟩ : ∃ W3, (w2.setCell ⟨w.heap.size + 1 + 1, 1, none⟩ (.slice (some ⟨g, 0, none⟩) S.l.length S.l.length)).setCell ⟨w.heap.size + 1 + 1, 2, none⟩ (.slice (some ⟨k, 0, none⟩) S.n S.n) = W3 := ⟨_, rfl⟩
  have HB3 : Hid (Below w.heap.size w W3) := hid (by rw [← hW3]; exact (HB2.out.setCell (by simp; omega) _).setCell (by simp; omega) _)
  have HA3 : Hid (Bx5 W3 w.heap.size (.int .i64 id) (.slice a S.l.length c) (.slice x S.n d) (.slice a' S'.l.length c') (.slice x' S'.n d')) := hid (by rw [← hW3]; exact (HA2.out.setAt _ _ (by simp; omega)).setAt _ _ (by simp; omega))
  have HR3 : Hid (Bx5 W3 (w.heap.size + 1) (.int .i64 0) (.slice none 0 0) (.slice none 0 0) (.slice none 0 0) (.slice none 0 0)) := hid (by rw [← hW3]; exact (HR2.out.setAt _ _ (by simp)).setAt _ _ (by simp))
  have HO3 : Hid (Bx5 W3 (w.heap.size + 1 + 1) (.int .i64 id) (.slice (some ⟨g, 0, none⟩) S.l.length S.l.length) (.slice (some ⟨k, 0, none⟩) S.n S.n) (.slice none 0 0) (.slice none 0 0)) := hid (by rw [← hW3]; exact (HO2.out.set1 _).set2 _)
  have HS3 : Hid (SNw W3 (w.heap.size + 3) W3.heap.size g k S) := hid (by
    rw [← hW3]
    have h1 := (s2.wide (lo' := w.heap.size + 3) (hi' := w2.heap.size) (by rw [z1.out]; exact Nat.le_refl _) (Nat.le_refl _) (Nat.le_refl _))
    exact ((h1.set _ _ (by simp)).set _ _ (by simp)).wide (Nat.le_refl _) (by simp [World.setCell]) (Nat.le_refl _))
  have hz3 : Hid (w.heap.size + 3 ≤ W3.heap.size) := hid (by rw [← hW3]; simp [World.setCell]; exact hz2.out)
  have k1 := HA2.out.c1
  have k2 := HA2.out.c2
  have k3 := HA2.out.c3
  have k4 := HA2.out.c4
  have o0 := HO2.out.c0
  have o1 := HO2.out.c1
  have o2 := HO2.out.c2
  have fo := HO2.out.f
  have m3 := HA3.out.c3
  have m4 := HA3.out.c4
  clear s2 b2 HT1
  go_wp2_with fail
  try rw [hW3]
  clear hW3 k1 k2 k3 k4 o0 o1 o2 fo m3 m4
  refine (HT2.out W3 HB3.out).mono ?_
  rintro e w4 ⟨g', k', rfl, s4, b4⟩
  have HA4 := hid (HA3.out.below b4 HA3.out.lt)
  have HR4 := hid (HR3.out.below b4 HR3.out.lt)
  have HO4 := hid (HO3.out.below b4 HO3.out.lt)
  have HS4 := hid (HS3.out.below b4)
  have HN4 := hid s4
  have HB4 := hid (keepS HB3.out b4)
  have r0 := HR4.out.c0
  have r1 := HR4.out.c1
  have r2 := HR4.out.c2
  have r3 := HR4.out.c3
  have r4 := HR4.out.c4
  have fr := HR4.out.f
  have o0 := HO4.out.c0
  have o1 := HO4.out.c1
  have o2 := HO4.out.c2
  have o3 := HO4.out.c3
  have o4 := HO4.out.c4
  have fo := HO4.out.f
  clear b4 s4 HT2
  go_wp2_with fail
  refine bodyPost_ret (v := .agg #[.int .i64 id, .slice (some ⟨g, 0, none⟩) S.l.length S.l.length, .slice (some ⟨k, 0, none⟩) S.n S.n, .slice (some ⟨g', 0, none⟩) S'.l.length S'.l.length, .slice (some ⟨k', 0, none⟩) S'.n S'.n]) (by simp [results, Tryz.results6, go_sem, r0, r1, r2, r3, r4]) rfl ⟨g, k, g', k', W3.heap.size, rfl, ?_, ?_, ?_⟩
  · refine SNw.wide (lo := w.heap.size + 3) (hi := W3.heap.size) ?_ (by omega) (Nat.le_refl _) (by simp [World.setCell]; exact HS4.out.hl)
    repeat (refine SNw.set ?_ _ _ (by simp; try omega))
    exact HS4.out
  · refine SNw.wide (lo := W3.heap.size) (hi := w4.heap.size) ?_ (Nat.le_refl _) (by simp [World.setCell]) (Nat.le_refl _)
    have hz := hz3.out
    repeat (refine SNw.set ?_ _ _ (by simp; omega))
    exact HN4.out
  · repeat (refine Below.setCell ?_ (by simp; try omega) _)
    exact HB4.out

theorem list5a {α : Type} {cs : Array α} (h : cs.size = 5) : ∃ c0 c1 c2 c3 c4, cs = #[c0, c1, c2, c3, c4] := by
  obtain ⟨l⟩ := cs
  match l, h with
  | [c0, c1, c2, c3, c4], _ => exact ⟨c0, c1, c2, c3, c4, rfl⟩
theorem openStT {H : Type} {enc : TypeId × Value → H} {W : World} {base fuel : Nat} {spare : Nat → Bool} {held : Bool} {v0 v1 : Value} {y : DataW H × List MemPlace}
    (h : DataW.trod enc Tryz.prog W base spare held fuel 27 [v0, v1] = some y) : ∃ a c x d S, v0 = .slice a (Sx.l S).length c ∧ v1 = .slice x S.n d ∧ S.Big ∧ SAt W a x S := by
  obtain ⟨y0, y1, n, _, _, h0, h1⟩ := trod_struct2 Tryz.underlying27 h
  have e1 : Tryz.prog.cellsOf 22 = 1 := by kernel_rfl
  have e2 : Tryz.prog.cellsOf 25 = 1 := by kernel_rfl
  have e3 : Tryz.prog.cellsOf 23 = 1 := by kernel_rfl
  simp [Value.cells, e1, e2] at h0 h1
  obtain ⟨y2, n2, _, _, h2⟩ := trod_struct1 Tryz.underlying25 h1
  simp [e3] at h2
  obtain ⟨a, l, c, hl, q1, q2, q3, q4⟩ := openLeaves h0
  obtain ⟨x, m, e, R, F, T, hr, r1, r2, r3, r4, r5⟩ := openRunsT h2
  simp at hl
  subst hl hr
  exact ⟨a, c, x, e, ⟨l, m, R, F, T⟩, rfl, rfl, ⟨q1, q3, q4, r1⟩, ⟨q2, r2⟩⟩
set_option maxRecDepth 100000 in
theorem openReplica {H : Type} {enc : TypeId × Value → H} {W : World} {r : Reach} {b0 base : Nat} {spare : Nat → Bool} {held : Bool} {v : Value} {d : DataW H} {p : List MemPlace}
    (hval : Value.okWide Tryz.prog W r b0 29 v) (h : DataW.Trod enc Tryz.prog W base spare held 29 v d p) :
    ∃ id a c x e S a' c' x' e' S', v = .agg #[.int .i64 id, .slice a (Sx.l S).length c, .slice x S.n e, .slice a' (Sx.l S').length c', .slice x' S'.n e'] ∧ (Lit.int .i64 id).wf = true ∧ S.Big ∧ S'.Big ∧ SAt W a x S ∧ SAt W a' x' S' := by
  obtain ⟨cs, rfl, hsz⟩ := okWide_struct Tryz.underlying29 hval
  obtain ⟨v0, v1, v2, v3, v4, rfl⟩ := list5a (hsz.trans (show Tryz.prog.cellsOf 29 = 5 by kernel_rfl))
  obtain ⟨fuel, hf⟩ := h
  obtain ⟨y0, y1, y2, n, _, _, h0, h1, h2⟩ := trod_struct3 Tryz.underlying29 hf
  have e1 : Tryz.prog.cellsOf 3 = 1 := by kernel_rfl
  have e2 : Tryz.prog.cellsOf 27 = 2 := by kernel_rfl
  simp [Value.cells, e1, e2] at h0 h1 h2
  obtain ⟨z0, q0, _, wf0⟩ := DataW.trod_int Tryz.underlying3 h0
  simp at q0
  subst q0
  obtain ⟨a, c, x, d, S, rfl, rfl, hb, hs⟩ := openStT h1
  obtain ⟨a', c', x', d', S', rfl, rfl, hb', hs'⟩ := openStT h2
  exact ⟨z0, a, c, x, d, S, a', c', x', d', S', rfl, wf0, hb, hb', hs, hs'⟩
end Go.Proofs.YtdenbicnckkdfaaGreat

namespace Go.Proofs.YtdenbicnckkdfaaGreat
open Go.ChangeShapes Go.WideShapes Go.ChangeAt Go.RowKit
set_option linter.unusedVariables false
set_option linter.unusedSimpArgs false

noncomputable def sxZ (S : Sx) : List Int × Int := psZ S.R S.F S.T S.n S.l
noncomputable def fitB (S : Sx) : Bool := decide ((sxZ S).2 = 0)
noncomputable def rpB (id : Int) (S S' : Sx) : Bool := decide (0 ≤ id) && (decide (id < 8) && (fitB S && fitB S'))
theorem sxZ_len (S : Sx) : (sxZ S).1.length ≤ 4000 := psZ_len _ _ _ _ _
theorem specPutSt (a x : Option Addr) (c d : Nat) (S : Sx) (w : World) (hc : S.l.length ≤ c) (hcm : c ≤ 9223372036854775807) (hm : S.Sm) (h : LCap w a S.l) (h' : RSeg w x S.n S.R S.F S.T) :
    Calls Tryz.prog 19 #[.agg #[.slice a S.l.length c, .slice x S.n d]] w fun e w' => ∃ v zs k, e = .returned (.tuple #[v, .int .i64 k]) ∧ sxZ S = (zs, k) ∧ Own w' w.heap.size v zs ∧ Below w.heap.size w w' :=
  specPutState a c S.l x S.n d S.R S.F S.T w hc hcm hm.l1 hm.p1 hm.n1 h h.seg h'
theorem implPutSt (a x : Option Addr) (c d : Nat) (S : Sx) (w : World) (hi : ∀ i, LfI (gL S.l i)) (hm : S.Sm) (h : SAt w a x S) :
    Calls Tryz.prog 24 #[.agg #[.slice a S.l.length c, .slice x S.n d]] w fun e w' => ∃ v zs k, e = .returned (.tuple #[v, .int .i64 k]) ∧ sxZ S = (zs, k) ∧ Own w' w.heap.size v zs ∧ Below w.heap.size w w' :=
  implPutState a c S.l x S.n d S.R S.F S.T w hm.l1 hm.p1 hi hm.n1 h.lf h.rn
set_option maxHeartbeats 1000000 in
theorem l4FitC (a x : Option Addr) (c d : Nat) (S : Sx) (w : World) (hc : S.l.length ≤ c) (hcm : c ≤ 9223372036854775807) (hm : S.Sm) (h : LCap w a S.l) (h' : RSeg w x S.n S.R S.F S.T) :
    Calls Tryz.prog 33 #[.agg #[.slice a S.l.length c, .slice x S.n d]] w fun e w' => e = .returned (.bool (fitB S)) ∧ Below w.heap.size w w' := by
  obtain ⟨W, hW⟩ : ∃ W, w.alloc (.cells #[.slice a S.l.length c, .slice x S.n d] 36) = W := ⟨_, rfl⟩
  have b0 : Below w.heap.size w W := by rw [← hW]; exact (Below.refl _ _).alloc (Nat.le_refl _) _
  have B0 : Bx2 W w.heap.size (.slice a S.l.length c) (.slice x S.n d) := by rw [← hW]; exact Bx2.made _ _ _ _
  have k0 := B0.c0
  have k1 := B0.c1
  have HP := hid (specPutSt a x c d S W hc hcm hm (h.below b0) (h'.below b0))
  have HB0 := hid b0
  have HF : Hid (fitB S = decide ((sxZ S).2 = 0)) := hid rfl
  obtain ⟨B, hB⟩ : ∃ B, fitB S = B := ⟨_, rfl⟩
  rw [hB] at HF ⊢
  clear b0 B0 h h' hB
  go_enter Tryz.func33, Tryz.ntmps33
  go_wp2_with fail
  try rw [hW]
  clear hW
  refine HP.out.mono ?_
  rintro e w1 ⟨v, zs, k, rfl, hz, ho, b1⟩
  have HB1 := hid (keepS HB0.out b1)
  have HE : Hid (B = (k == 0)) := hid (by rw [HF.out, hz]; rfl)
  clear b1 ho hz HP k0 k1 HF
  go_wp2_with fail
  go_ret
  exact ⟨by rw [HE.out]; rfl, HB1.out⟩
set_option maxHeartbeats 1000000 in
theorem fitC (a x : Option Addr) (c d : Nat) (S : Sx) (w : World) (hi : ∀ i, LfI (gL S.l i)) (hm : S.Sm) (h : SAt w a x S) :
    Calls Tryz.prog 42 #[.agg #[.slice a S.l.length c, .slice x S.n d]] w fun e w' => e = .returned (.bool (fitB S)) ∧ Below w.heap.size w w' := by
  obtain ⟨W, hW⟩ : ∃ W, w.alloc (.cells #[.slice a S.l.length c, .slice x S.n d] 36) = W := ⟨_, rfl⟩
  have b0 : Below w.heap.size w W := by rw [← hW]; exact (Below.refl _ _).alloc (Nat.le_refl _) _
  have B0 : Bx2 W w.heap.size (.slice a S.l.length c) (.slice x S.n d) := by rw [← hW]; exact Bx2.made _ _ _ _
  have k0 := B0.c0
  have k1 := B0.c1
  have HP := hid (implPutSt a x c d S W hi hm (h.below b0))
  have HB0 := hid b0
  have HF : Hid (fitB S = decide ((sxZ S).2 = 0)) := hid rfl
  obtain ⟨B, hB⟩ : ∃ B, fitB S = B := ⟨_, rfl⟩
  rw [hB] at HF ⊢
  clear b0 B0 h hB
  go_enter Tryz.func42, Tryz.ntmps42
  go_wp2_with fail
  try rw [hW]
  clear hW
  refine HP.out.mono ?_
  rintro e w1 ⟨v, zs, k, rfl, hz, ho, b1⟩
  have HB1 := hid (keepS HB0.out b1)
  have HE : Hid (B = (k == 0)) := hid (by rw [HF.out, hz]; rfl)
  clear b1 ho hz HP k0 k1 HF
  go_wp2_with fail
  go_ret
  exact ⟨by rw [HE.out]; rfl, HB1.out⟩
set_option maxRecDepth 100000 in
set_option maxHeartbeats 2000000 in
theorem specReplicaOk (id : Int) (a x a' x' : Option Addr) (c d c' d' : Nat) (S S' : Sx) (w : World) (hc : S.l.length ≤ c) (hcm : c ≤ 9223372036854775807) (hc' : S'.l.length ≤ c') (hcm' : c' ≤ 9223372036854775807) (hm : S.Sm) (hm' : S'.Sm) (h : LCap w a S.l) (k : RSeg w x S.n S.R S.F S.T) (h' : LCap w a' S'.l) (k' : RSeg w x' S'.n S'.R S'.F S'.T) :
    Calls Tryz.prog 15 #[.agg #[.int .i64 id, .slice a S.l.length c, .slice x S.n d, .slice a' S'.l.length c', .slice x' S'.n d']] w fun e w' => e = .returned (.bool (rpB id S S')) ∧ Below w.heap.size w w' := by
  obtain ⟨W, hW⟩ : ∃ W, w.alloc (.cells #[.int .i64 id, .slice a S.l.length c, .slice x S.n d, .slice a' S'.l.length c', .slice x' S'.n d'] 38) = W := ⟨_, rfl⟩
  have b0 : Below w.heap.size w W := by rw [← hW]; exact (Below.refl _ _).alloc (Nat.le_refl _) _
  have B0 : Bx5 W w.heap.size (.int .i64 id) (.slice a S.l.length c) (.slice x S.n d) (.slice a' S'.l.length c') (.slice x' S'.n d') := by rw [← hW]; exact Bx5.new _ _ _ _ _ _ _
  have HF1 : Hid (∀ w1, Below W.heap.size W w1 → Calls Tryz.prog 33 #[.agg #[.slice a S.l.length c, .slice x S.n d]] w1 fun e w' => e = .returned (.bool (fitB S)) ∧ Below w1.heap.size w1 w') := hid (fun w1 hb => l4FitC a x c d S w1 hc hcm hm (h.below (keepS b0 hb)) (k.below (keepS b0 hb)))
  have HF2 : Hid (∀ w1, Below W.heap.size W w1 → Calls Tryz.prog 33 #[.agg #[.slice a' S'.l.length c', .slice x' S'.n d']] w1 fun e w' => e = .returned (.bool (fitB S')) ∧ Below w1.heap.size w1 w') := hid (fun w1 hb => l4FitC a' x' c' d' S' w1 hc' hcm' hm' (h'.below (keepS b0 hb)) (k'.below (keepS b0 hb)))
  have HR : Hid (rpB id S S' = (decide (0 ≤ id) && (decide (id < 8) && (fitB S && fitB S')))) := hid rfl
  obtain ⟨B, hB⟩ : ∃ B, rpB id S S' = B := ⟨_, rfl⟩
  obtain ⟨B1, hB1⟩ : ∃ B1, fitB S = B1 := ⟨_, rfl⟩
  obtain ⟨B2, hB2⟩ : ∃ B2, fitB S' = B2 := ⟨_, rfl⟩
  rw [hB, hB1, hB2] at HR
  rw [hB1] at HF1
  rw [hB2] at HF2
  rw [hB]
  have HB0 := hid b0
  have HX := hid B0
  have q0 := B0.c0
  have q1 := B0.c1
  have q2 := B0.c2
  have q3 := B0.c3
  have q4 := B0.c4
  clear h h' k k' b0 B0 hB hB1 hB2
  by_cases h1 : 0 ≤ id
  · have d1 : decide (0 ≤ id) = true := by simpa using h1
    have d1' : decide (id < 0) = false := by simp; omega
    by_cases h2 : id < 8
    · have d2 : decide (id < 8) = true := by simpa using h2
      have d2' : decide (8 ≤ id) = false := by simp; omega
      have HR2 : Hid (B = (B1 && B2)) := hid (by rw [HR.out, d1, d2]; simp)
      go_enter Tryz.func15, Tryz.ntmps15
      go_wp2_with fail
      try rw [hW]
      clear hW
      refine (HF1.out _ (Below.refl _ _)).mono ?_
      rintro e w1 ⟨rfl, b1⟩
      have X1 := HX.out.below b1 HX.out.lt
      have p3 := X1.c3
      have p4 := X1.c4
      have HB1 := hid (keepS HB0.out b1)
      have HC := hid (HF2.out w1 b1)
      clear b1 X1 q0 q1 q2 q3 q4 HF1 HF2 HX
      cases B1 with
      | false =>
        have HRF : Hid (B = false) := hid (by rw [HR2.out]; rfl)
        go_wp2_with fail
        go_ret
        exact ⟨by rw [HRF.out]; rfl, HB1.out⟩
      | true =>
        have HRF : Hid (B = B2) := hid (by rw [HR2.out]; rfl)
        go_wp2_with fail
        refine HC.out.mono ?_
        rintro e w2 ⟨rfl, b2⟩
        have HB2 := hid (keepS HB1.out b2)
        clear b2 HC p3 p4
        go_wp2_with fail
        go_ret
        exact ⟨by rw [HRF.out]; rfl, HB2.out⟩
    · have d2 : decide (id < 8) = false := by simpa using h2
      have d2' : decide (8 ≤ id) = true := by simp; omega
      have HR2 : Hid (B = false) := hid (by rw [HR.out, d2]; simp)
      go_enter Tryz.func15, Tryz.ntmps15
      go_wp2_with fail
      try rw [hW]
      go_ret
      exact ⟨by rw [HR2.out]; rfl, HB0.out⟩
  · have d1 : decide (0 ≤ id) = false := by simpa using h1
    have d1' : decide (id < 0) = true := by simp; omega
    have HR2 : Hid (B = false) := hid (by rw [HR.out, d1]; simp)
    go_enter Tryz.func15, Tryz.ntmps15
    go_wp2_with fail
    try rw [hW]
    go_ret
    exact ⟨by rw [HR2.out]; rfl, HB0.out⟩
theorem repOkC (id : Int) (w : World) : Calls Tryz.prog 41 #[.int .i64 id] w fun e w' => e = .returned (.bool (decide (0 ≤ id) && decide (id < 8))) ∧ w' = w := by
  by_cases h1 : 0 ≤ id
  · have d1 : decide (0 ≤ id) = true := by simpa using h1
    by_cases h2 : id < 8
    · have d2 : decide (id < 8) = true := by simpa using h2
      rw [d1, d2]
      go_enter Tryz.func41, Tryz.ntmps41
      go_wp2_with fail
      go_ret
      exact ⟨rfl, rfl⟩
    · have d2 : decide (id < 8) = false := by simpa using h2
      rw [d1, d2]
      go_enter Tryz.func41, Tryz.ntmps41
      go_wp2_with fail
      go_ret
      exact ⟨rfl, rfl⟩
  · have d1 : decide (0 ≤ id) = false := by simpa using h1
    rw [d1]
    go_enter Tryz.func41, Tryz.ntmps41
    go_wp2_with fail
    go_ret
    exact ⟨rfl, rfl⟩
set_option maxRecDepth 100000 in
set_option maxHeartbeats 2000000 in
theorem implReplicaOk (id : Int) (a x a' x' : Option Addr) (c d c' d' : Nat) (S S' : Sx) (w : World) (hi : ∀ i, LfI (gL S.l i)) (hi' : ∀ i, LfI (gL S'.l i)) (hm : S.Sm) (hm' : S'.Sm) (h : SAt w a x S) (h' : SAt w a' x' S') :
    Calls Tryz.prog 22 #[.agg #[.int .i64 id, .slice a S.l.length c, .slice x S.n d, .slice a' S'.l.length c', .slice x' S'.n d']] w fun e w' => e = .returned (.bool (rpB id S S')) ∧ Below w.heap.size w w' := by
  obtain ⟨W, hW⟩ : ∃ W, w.alloc (.cells #[.int .i64 id, .slice a S.l.length c, .slice x S.n d, .slice a' S'.l.length c', .slice x' S'.n d'] 38) = W := ⟨_, rfl⟩
  have b0 : Below w.heap.size w W := by rw [← hW]; exact (Below.refl _ _).alloc (Nat.le_refl _) _
  have B0 : Bx5 W w.heap.size (.int .i64 id) (.slice a S.l.length c) (.slice x S.n d) (.slice a' S'.l.length c') (.slice x' S'.n d') := by rw [← hW]; exact Bx5.new _ _ _ _ _ _ _
  have HF1 : Hid (∀ w1, Below W.heap.size W w1 → Calls Tryz.prog 42 #[.agg #[.slice a S.l.length c, .slice x S.n d]] w1 fun e w' => e = .returned (.bool (fitB S)) ∧ Below w1.heap.size w1 w') := hid (fun w1 hb => fitC a x c d S w1 hi hm (h.below (keepS b0 hb)))
  have HF2 : Hid (∀ w1, Below W.heap.size W w1 → Calls Tryz.prog 42 #[.agg #[.slice a' S'.l.length c', .slice x' S'.n d']] w1 fun e w' => e = .returned (.bool (fitB S')) ∧ Below w1.heap.size w1 w') := hid (fun w1 hb => fitC a' x' c' d' S' w1 hi' hm' (h'.below (keepS b0 hb)))
  have HR : Hid (rpB id S S' = (decide (0 ≤ id) && (decide (id < 8) && (fitB S && fitB S')))) := hid rfl
  obtain ⟨B, hB⟩ : ∃ B, rpB id S S' = B := ⟨_, rfl⟩
  obtain ⟨B1, hB1⟩ : ∃ B1, fitB S = B1 := ⟨_, rfl⟩
  obtain ⟨B2, hB2⟩ : ∃ B2, fitB S' = B2 := ⟨_, rfl⟩
  rw [hB, hB1, hB2] at HR
  rw [hB1] at HF1
  rw [hB2] at HF2
  rw [hB]
  have HRP : Hid (∀ w, Calls Tryz.prog 41 #[.int .i64 id] w fun e w' => e = .returned (.bool (decide (0 ≤ id) && decide (id < 8))) ∧ w' = w) := hid (fun w => repOkC id w)
  have HB0 := hid b0
  have HX := hid B0
  have q0 := B0.c0
  have q1 := B0.c1
  have q2 := B0.c2
  have q3 := B0.c3
  have q4 := B0.c4
  clear h h' b0 B0 hB hB1 hB2
  by_cases h1 : 0 ≤ id
  · have d1 : decide (0 ≤ id) = true := by simpa using h1
    have d1' : decide (id < 0) = false := by simp; omega
    by_cases h2 : id < 8
    · have d2 : decide (id < 8) = true := by simpa using h2
      have d2' : decide (8 ≤ id) = false := by simp; omega
      have HR2 : Hid (B = (B1 && B2)) := hid (by rw [HR.out, d1, d2]; simp)
      go_enter Tryz.func22, Tryz.ntmps22
      go_wp2_with fail
      refine (HRP.out _).mono ?_
      rintro e w0 ⟨rfl, rfl⟩
      rw [d1, d2]
      go_wp2_with fail
      try rw [hW]
      clear hW
      refine (HF1.out _ (Below.refl _ _)).mono ?_
      rintro e w1 ⟨rfl, b1⟩
      have X1 := HX.out.below b1 HX.out.lt
      have p3 := X1.c3
      have p4 := X1.c4
      have HB1 := hid (keepS HB0.out b1)
      have HC := hid (HF2.out w1 b1)
      clear b1 X1 q0 q1 q2 q3 q4 HF1 HF2 HX
      cases B1 with
      | false =>
        have HRF : Hid (B = false) := hid (by rw [HR2.out]; rfl)
        go_wp2_with fail
        go_ret
        exact ⟨by rw [HRF.out]; rfl, HB1.out⟩
      | true =>
        have HRF : Hid (B = B2) := hid (by rw [HR2.out]; rfl)
        go_wp2_with fail
        refine HC.out.mono ?_
        rintro e w2 ⟨rfl, b2⟩
        have HB2 := hid (keepS HB1.out b2)
        clear b2 HC p3 p4
        go_wp2_with fail
        go_ret
        exact ⟨by rw [HRF.out]; rfl, HB2.out⟩
    · have d2 : decide (id < 8) = false := by simpa using h2
      have d2' : decide (8 ≤ id) = true := by simp; omega
      have HR2 : Hid (B = false) := hid (by rw [HR.out, d2]; simp)
      go_enter Tryz.func22, Tryz.ntmps22
      go_wp2_with fail
      refine (HRP.out _).mono ?_
      rintro e w0 ⟨rfl, rfl⟩
      rw [d1, d2]
      go_wp2_with fail
      try rw [hW]
      go_ret
      exact ⟨by rw [HR2.out]; rfl, HB0.out⟩
  · have d1 : decide (0 ≤ id) = false := by simpa using h1
    have d1' : decide (id < 0) = true := by simp; omega
    have HR2 : Hid (B = false) := hid (by rw [HR.out, d1]; simp)
    go_enter Tryz.func22, Tryz.ntmps22
    go_wp2_with fail
    refine (HRP.out _).mono ?_
    rintro e w0 ⟨rfl, rfl⟩
    rw [d1]
    go_wp2_with fail
    try rw [hW]
    go_ret
    exact ⟨by rw [HR2.out]; rfl, HB0.out⟩
end Go.Proofs.YtdenbicnckkdfaaGreat
