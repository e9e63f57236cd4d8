import Derived.Test.YtakmpmhjcngbbaaGreatDoorMgg24
import Derived.WalkSmall
import Derived.Test.YtakmpmhjcngbbaaGreatDoorMgg15
import Derived.Test.YtakmpmhjcngbbaaGreatDoorMgg14
set_option linter.unusedVariables false
set_option linter.unusedSimpArgs false
set_option maxRecDepth 100000
set_option maxHeartbeats 40000000
namespace Go.Proofs.YtakmpmhjcngbbaaGreatDoor
open Go.ChangeShapes Go.WideShapes Go.ChangeAt Go.RowKit Go.Maps
theorem compareKeysE (x y : Ky) (w : World) : Calls Tryz.prog 72 #[.agg #[.string x.1, .int .i64 x.2], .agg #[.string y.1, .int .i64 y.2]] w fun e w' => e = .returned (.int .i64 (cmpK x y)) ∧ Bw w w' := by
  obtain ⟨s, k⟩ := x
  obtain ⟨s', k'⟩ := y
  dsimp only
  obtain ⟨W, hW⟩ : ∃ W, (w.alloc (.cells #[.string s, .int .i64 k] 110)).alloc (.cells #[.string s', .int .i64 k'] 110) = W := ⟨_, rfl⟩
  have b0 : Bw w W := by rw [← hW]; exact ⟨below2 _ _ _, Nat.le_refl _⟩
  have X0 : Bx2 W w.heap.size (.string s) (.int .i64 k) := by rw [← hW]; exact (Bx2.made w _ _ _).allocs _
  have X1 : Bx2 W (w.heap.size + 1) (.string s') (.int .i64 k') := by rw [← hW]; simpa using Bx2.made (w.alloc (.cells #[.string s, .int .i64 k] 110)) (.string s') (.int .i64 k') 110
  have HB0 := hid b0
  have HX0 := hid X0
  have HX1 := hid X1
  clear b0 X0 X1
  go_enter Tryz.func72, Tryz.ntmps72
  go_wp2_with fail
  try rw [hW]
  clear hW
  have HCS : Hid (∀ w', Bw W w' → (Bw W w' ∧ w'.cell? ⟨w.heap.size, 0, none⟩ = some (.string s) ∧ w'.cell? ⟨w.heap.size, 1, none⟩ = some (.int .i64 k) ∧ w'.cell? ⟨w.heap.size + 1, 0, none⟩ = some (.string s') ∧ w'.cell? ⟨w.heap.size + 1, 1, none⟩ = some (.int .i64 k'))) := hid (fun w' hB => by
    have x0 := HX0.out.below hB.1 HX0.out.lt
    have x1 := HX1.out.below hB.1 HX1.out.lt
    exact ⟨hB, x0.c0, x0.c1, x1.c0, x1.c1⟩)
  refine wp_region_held_drew (S := fun w' => Bw W w' ∧ w'.cell? ⟨w.heap.size, 0, none⟩ = some (.string s) ∧ w'.cell? ⟨w.heap.size, 1, none⟩ = some (.int .i64 k) ∧ w'.cell? ⟨w.heap.size + 1, 0, none⟩ = some (.string s') ∧ w'.cell? ⟨w.heap.size + 1, 1, none⟩ = some (.int .i64 k')) (by kernel_rfl) (HCS.out _ ⟨(RowKit.Below.refl _ _).drew, Nat.le_succ _⟩) (fun hHeld => ?_)
  refine tk 0 5 ?_ (by kernel_rfl) (fun _ _ _ h => h) ?_ hHeld (tk 1 6 ?_ (by kernel_rfl) (fun _ _ _ h => h) ?_ hHeld (tk 2 7 ?_ (by kernel_rfl) (fun _ _ _ h => h) ?_ hHeld (tk 3 8 ?_ (by kernel_rfl) (fun _ _ _ h => h) ?_ hHeld ?_)))
  iterate 4 (rotate_left; focus (intro o ho; simp only [gZa, gZb, gZc, gZd] at ho; subst ho; refine Or.inl ⟨by rfl, ?_⟩; intro w hSw; (try dsimp only at hSw); (try simp only [Act.put, sZa, sZb, sZc]); go_simp; try with_reducible rfl))
  try simp only [Act.put, sZa, sZb, sZc]
  refine tk 5 10 ?_ (by kernel_rfl) (fun _ _ _ h => h) ?_ hHeld (tk 6 11 ?_ (by kernel_rfl) (fun _ _ _ h => h) ?_ hHeld (tk 7 12 ?_ (by kernel_rfl) (fun _ _ _ h => h) ?_ hHeld (tk 8 13 ?_ (by kernel_rfl) (fun _ _ _ h => h) ?_ hHeld ?_)))
  iterate 4 (rotate_left; focus (intro o ho; simp only [gZa, gZb, gZc, gZd] at ho; subst ho; refine Or.inl ⟨by rfl, ?_⟩; intro w hSw; (try dsimp only at hSw); (try simp only [Act.put, sZa, sZb, sZc]); go_simp; try with_reducible rfl))
  try simp only [Act.put, sZa, sZb, sZc]
  refine call1 (i := 4) (d := some 9) (by kernel_rfl) (by kernel_rfl) ?_
  intro o ho hod K hK; simp only [gZa, gZb, gZc, gZd] at ho; subst ho
  go_simp
  refine (cmpStr s s' _).mono ?_
  rintro e w1 ⟨rfl, rfl⟩
  refine hK.out _ _ hHeld (fun hHeld => ?_)
  clear hK K
  try simp only [Act.put, sZa, sZb, sZc]
  refine call1 (i := 9) (d := some 14) (by kernel_rfl) (by kernel_rfl) ?_
  intro o ho hod K hK; simp only [gZa, gZb, gZc, gZd] at ho; subst ho
  go_simp
  refine (compare k k' _).mono ?_
  rintro e w2 ⟨rfl, rfl⟩
  refine hK.out _ _ hHeld (fun hHeld => ?_)
  clear hK K
  try simp only [Act.put, sZa, sZb, sZc]
  refine call1 (i := 10) (d := some 15) (by kernel_rfl) (by kernel_rfl) ?_
  intro o ho hod K hK; simp only [gZa, gZb, gZc, gZd] at ho; subst ho
  go_simp
  have hB : Bw W (W.drew.alloc (.cells #[.int .i64 (cmpS s s'), .int .i64 (cmpI k k')] 3)) := ⟨hHeld.1.1.alloc hHeld.1.1.size _, hHeld.1.2⟩
  refine hK.out _ _ (HCS.out _ hB) (fun hHeld => ?_)
  clear hK K
  try simp only [Act.put, sZa, sZb, sZc]
  refine call1 (i := 11) (d := some 16) (by kernel_rfl) (by kernel_rfl) ?_
  intro o ho hod K hK; simp only [gZa, gZb, gZc, gZd] at ho; subst ho
  go_simp
  refine (cmpOr _ 2 2 (fun i => if i = 0 then cmpS s s' else cmpI k k') _ (by omega) (fun i hi => ?_)).mono ?_
  · match i, hi with
    | 0, _ => simp
    | 1, _ => simp
  rintro e w3 ⟨rfl, rfl⟩
  refine hK.out _ _ hHeld (fun hHeld => ?_)
  clear hK K
  try simp only [Act.put, sZa, sZb, sZc]
  refine tk 12 4 ?_ (by kernel_rfl) (fun _ _ _ h => h) ?_ hHeld ?_
  rotate_left
  · (intro o ho; simp only [gZa, gZb, gZc, gZd] at ho; subst ho; refine Or.inl ⟨by rfl, ?_⟩; intro w hSw; (try dsimp only at hSw); go_simp; try with_reducible rfl)
  try simp only [Act.put, sZa, sZb, sZc]
  refine wpAnyH_done (by kernel_rfl) ?_ _
  have HB : Hid (Bw w (W.drew.alloc (.cells #[.int .i64 (cmpS s s'), .int .i64 (cmpI k k')] 3))) := hid ⟨HB0.out.1.trans (hHeld.1.1.mono HB0.out.1.size), Nat.le_trans HB0.out.2 hHeld.1.2⟩
  clear hHeld hB
  go_wp2_with fail
  go_ret
  exact ⟨ret_i nz2, HB.out⟩
def KyP (EX : Nat → Option Value) (f : Nat → Int) (n x : Nat) (before : Ky) (cb : Nat) (a : Option Addr) (c : Nat) (w : World) (e : Ending) (w' : World) : Prop := w.grownBy w' (some cb) ∧
  ((∃ y x', rdKy f n before x = some (y, x') ∧ e = .returned (.tuple #[.agg #[.string y.1, .int .i64 y.2], .nilIface]) ∧ Cur EX w' cb a n c ((x' : Nat) : Int)) ∨
   (rdKy f n before x = none ∧ ∃ (t : TypeId) (v : Value), e = .returned (.tuple #[.agg #[.string ⟨#[]⟩, .int .i64 0], .iface t v])))
theorem keyC {EX : Nat → Option Value} (tb B : Nat) (a : Option Addr) (n c : Nat) (f : Nat → Int) (aT aS aL aE : Addr) (x : Nat) (bs : ByteArray) (bk : Int) (w : World) (hn : n ≤ 1048576) (hnc : n ≤ c) (hcc : c ≤ 4611686018427387904) (hf : Byt f)
    (hs : Seg w a n f) (hcur : Cur EX w tb a n c (x : Int)) (hE : Errs w B aT aS aL aE) (hbt : B ≤ tb) (hab : ∀ y, a = some y → y.block ≠ tb) :
    Calls Tryz.prog 50 #[.pointer (some ⟨tb, 0, none⟩), .agg #[.string bs, .int .i64 bk]] w fun e w' => KyP EX f n x (bs, bk) tb a c w e w' := by
  obtain ⟨P, hP⟩ : ∃ P, KyP EX f n x (bs, bk) tb a c w = P := ⟨_, rfl⟩
  rw [hP]
  have HP := hid hP
  clear hP
  obtain ⟨W, hW⟩ : ∃ W, (w.alloc (.cells #[.string bs, .int .i64 bk] 110)).alloc (.cells #[.string ⟨#[]⟩, .int .i64 0] 110) = W := ⟨_, rfl⟩
  have b0 : Below w.heap.size w W := by rw [← hW]; exact below2 _ _ _
  have zW : W.heap.size = w.heap.size + 1 + 1 := by rw [← hW]; simp
  have X0 : Bx2 W w.heap.size (.string bs) (.int .i64 bk) := by rw [← hW]; exact (Bx2.made w _ _ _).allocs _
  have HR0 : Hid (KB W (w.heap.size + 1)) := hid (by rw [← hW]; simpa using KB.made (w.alloc (.cells #[.string bs, .int .i64 bk] 110)) ⟨#[]⟩ 0 110)
  have ht0 := hcur.lt
  have HG0 : Hid (w.grownBy W (some tb)) := hid ⟨b0.os, b0.tape, b0.output, b0.size, fun k hk _ => b0.block k hk⟩
  have HC0 := hid (hcur.below b0 hcur.lt)
  have HS0 := hid (hs.below b0)
  have HE0 := hid (hE.below (b0.mono (Nat.le_trans hbt (Nat.le_of_lt ht0))))
  have HT := hid (nameAndKindC (EX := EX) tb B a n c f aT aS aL aE x W hn hnc hcc hf HS0.out HC0.out HE0.out hbt hab)
  have kat := HC0.out.2.1
  have HX0 := hid X0
  have HZ := hid zW
  have hwt : w.heap.size + 1 ≠ tb := by omega
  have hwt0 : w.heap.size ≠ tb := by omega
  have hww : w.heap.size ≤ w.heap.size + 1 := by omega
  clear hs hcur hE hf b0 X0 zW
  go_enter Tryz.func50, Tryz.ntmps50
  go_wp2_with fail
  try rw [hW]
  clear hW kat
  refine HT.out.mono ?_
  clear HT
  rintro e w1 ⟨g1, ⟨y, x1, hs, rfl, cu⟩ | ⟨hs, t, v, y, rfl, cu⟩⟩
  · have HY : Hid (rdKy f n (bs, bk) x = if yes (cmpK (bs, bk) y < 0) = true then some (y, x1) else none) := hid (by rw [rdKy_nk, hs]; rfl)
    obtain ⟨s, k⟩ := y
    dsimp only
    obtain ⟨W1, hW1⟩ : ∃ W1, w1.alloc (.cells #[.string s, .int .i64 k] 110) = W1 := ⟨_, rfl⟩
    have bA : Below w1.heap.size w1 W1 := by rw [← hW1]; exact (Below.refl _ _).alloc (Nat.le_refl _) _
    have g1' := grown_below g1 bA
    have HG1 := hid (HG0.out.trans g1')
    have HR1 := hid (HR0.out.gr g1' hwt)
    have Y1 : Bx2 W1 w1.heap.size (.string s) (.int .i64 k) := by rw [← hW1]; exact Bx2.made _ _ _ _
    have hb1 := HZ.out
    have hb2 := g1.size
    have X1 : Bx2 W1 w.heap.size (.string bs) (.int .i64 bk) := by
      have e := g1'.block w.heap.size (by omega) (fun e => hwt0 (by injection e))
      exact ⟨(World.cell?_of_block (a := ⟨w.heap.size, 0, none⟩) e).trans HX0.out.c0, (World.cell?_of_block (a := ⟨w.heap.size, 1, none⟩) e).trans HX0.out.c1, fun i => (World.frozen?_of_block (a := ⟨w.heap.size, i, none⟩) e).trans (HX0.out.f i), Nat.lt_of_lt_of_le HX0.out.lt g1'.size⟩
    have HC1 := hid (cu.below bA cu.lt)
    have HE1 := hid ((HE0.out.grown g1 hbt HC0.out.lt).below (bA.mono (by omega)))
    have HK := hid (compareKeysE (bs, bk) (s, k) W1)
    have y0 := Y1.c0
    have y1 := Y1.c1
    have z0 := X1.c0
    have z1 := X1.c1
    have HY1 := hid Y1
    clear g1 g1' hs cu HG0 HR0 HC0 HS0 HE0 HX0 bA Y1 X1 hb1 hb2
    go_wp2_with fail
    clear hW1 y0 y1 z0 z1
    refine HK.out.mono ?_
    rintro e w2 ⟨rfl, b2, _⟩
    obtain ⟨cv, hcv⟩ : ∃ cv, cmpK (bs, bk) (s, k) = cv := ⟨_, rfl⟩
    rw [hcv] at HY ⊢
    have HE2 := hid (HE1.out.below (b2.mono (Nat.le_trans hbt (Nat.le_of_lt HC1.out.lt))))
    clear HK hcv HE1
    by_cases hc : 0 ≤ cv
    · have HN : Hid (rdKy f n (bs, bk) x = none) := hid (by rw [HY.out, yes_f (by omega)]; rfl)
      obtain ⟨ev, ge⟩ := HE2.out.gO
      have bA : Below w2.heap.size w2 (w2.alloc (.cells #[.string ⟨#[107, 101, 121]⟩, .int .i64 (x : Int), .iface 233 ev] 82)) := (Below.refl _ _).alloc (Nat.le_refl _) _
      have HG3 := hid (grown_below (grown_below HG1.out b2) bA)
      have HR3 := hid (HR1.out.gr (grown_below (grown_below ⟨rfl, rfl, rfl, Nat.le_refl _, fun _ _ _ => rfl⟩ b2) bA) hwt)
      obtain ⟨u0, k0⟩ := HR3.out.c0
      obtain ⟨u1, k1⟩ := HR3.out.c1
      have f0 := HR3.out.f0
      clear HG1 HR1 HC1 HY1 HE2 HY bA b2
      go_wp2_with fail
      obtain ⟨Z, hZ, q0, q1, gZ, bZ⟩ := HR3.out.fill HG3.out hww ⟨#[]⟩ 0
      rw [← hZ]
      clear hZ
      refine bodyPost_ret (v := .tuple #[.agg #[.string ⟨#[]⟩, .int .i64 0], .iface 80 (.pointer (some ⟨w2.heap.size, 0, none⟩))]) (by simp [results, Tryz.results50, go_sem, q0, q1]) rfl ?_
      rw [← HP.out]
      exact ⟨gZ, .inr ⟨HN.out, _, _, rfl⟩⟩
    · have HN : Hid (rdKy f n (bs, bk) x = some ((s, k), x1)) := hid (by rw [HY.out, yes_t (by omega)]; rfl)
      have HG3 := hid (grown_below HG1.out b2)
      have HR3 := hid (HR1.out.gr (tb := tb) (grown_below ⟨rfl, rfl, rfl, Nat.le_refl _, fun _ _ _ => rfl⟩ b2) hwt)
      have HC3 := hid (HC1.out.below b2 HC1.out.lt)
      have Y3 := HY1.out.below b2 HY1.out.lt
      have y0 := Y3.c0
      have y1 := Y3.c1
      obtain ⟨u0, k0⟩ := HR3.out.c0
      obtain ⟨u1, k1⟩ := HR3.out.c1
      have f0 := HR3.out.f0
      clear HG1 HR1 HC1 HY1 HE2 HY b2 Y3
      go_wp2_with fail
      obtain ⟨Z, hZ, q0, q1, gZ, bZ⟩ := HR3.out.fill HG3.out hww s k
      rw [← hZ]
      clear hZ
      refine bodyPost_ret (v := .tuple #[.agg #[.string s, .int .i64 k], .nilIface]) (by simp [results, Tryz.results50, go_sem, q0, q1]) rfl ?_
      rw [← HP.out]
      exact ⟨gZ, .inl ⟨_, _, HN.out, rfl, HC3.out.at' (bZ tb (Ne.symm hwt))⟩⟩
  · have HN : Hid (rdKy f n (bs, bk) x = none) := hid (by rw [rdKy_nk, hs]; rfl)
    have bA : Below w1.heap.size w1 ((w1.alloc (.cells #[.string ⟨#[]⟩, .int .i64 0] 110)).alloc (.cells #[.string ⟨#[107, 101, 121]⟩, .int .i64 (x : Int), .iface t v] 82)) := below2 _ _ _
    have g1' := grown_below g1 bA
    have HG1 := hid (HG0.out.trans g1')
    have HR1 := hid (HR0.out.gr g1' hwt)
    obtain ⟨u0, k0⟩ := HR1.out.c0
    obtain ⟨u1, k1⟩ := HR1.out.c1
    have f0 := HR1.out.f0
    clear g1 g1' hs cu HG0 HR0 HC0 HS0 HE0 HX0 bA
    go_wp2_with fail
    obtain ⟨Z, hZ, q0, q1, gZ, bZ⟩ := HR1.out.fill HG1.out hww ⟨#[]⟩ 0
    rw [← hZ]
    clear hZ
    refine bodyPost_ret (v := .tuple #[.agg #[.string ⟨#[]⟩, .int .i64 0], .iface 80 (.pointer (some ⟨w1.heap.size + 1, 0, none⟩))]) (by simp [results, Tryz.results50, go_sem, q0, q1]) rfl ?_
    rw [← HP.out]
    exact ⟨gZ, .inr ⟨HN.out, _, _, rfl⟩⟩
section
variable {w w' v v' : World} {tb B kb ub bs hi : Nat} {a : Option Addr} {n c : Nat} {f : Nat → Int} {aT aS aL aE : Addr} {L : Int → List (Int × Int)} {x x' : Int} {acc acc' : List Lf}
theorem TS.gr (h : TS w tb B kb ub bs hi a n c f aT aS aL aE L x acc) {b : Nat} (g : w.grownBy w' (some b)) (hb : hi ≤ b) : TS w' tb B kb ub bs hi a n c f aT aS aL aE L x acc := by
  obtain ⟨nn, D, G, g1, g2⟩ := h.grp
  have e1 := h.tl
  have e2 := h.ul
  have e3 := h.kl
  have e4 := h.kh
  have e5 := h.bt
  have hB : Below B w w' := ⟨g.os, g.tape, g.output, g.size, fun k hk => g.block k (by have := h.lt; omega) (fun e => by injection e with e; omega)⟩
  exact ⟨h.cur.at' (g.block tb h.cur.lt (fun e => by injection e with e; omega)), h.seg.grown g (fun y hy => by have := (h.ab y hy).2.2; omega), h.err.below hB, h.us.same (g.block ub h.us.lt (fun e => by injection e with e; omega)), ⟨nn, D, G, g1.gr g (fun e => by injection e with e; omega) (fun r k hk e => by injection e with e; have := (g2 r k hk).2; omega), g2⟩, h.ab, h.ne, h.bt, h.bu, h.tl, h.ul, h.kl, h.kh⟩
theorem G2.gr (h : G2 tb ub w v) {b : Nat} (g : v.grownBy v' (some b)) (hb : w.heap.size ≤ b) : G2 tb ub w v' :=
  ⟨g.os.trans h.os, g.tape.trans h.tape, g.output.trans h.output, Nat.le_trans h.size g.size, fun k hk h1 h2 => (g.block k (Nat.lt_of_lt_of_le hk h.size) (fun e => by injection e with e; omega)).trans (h.block k hk h1 h2)⟩
structure NB (v : World) (b : Nat) : Prop where
  c0 : ∃ u, v.cell? ⟨b, 0, none⟩ = some (.map u)
  c1 : ∃ u, v.cell? ⟨b, 1, none⟩ = some (.map u)
  f0 : ∀ i, v.frozen? ⟨b, i, none⟩ = false
  lt : b < v.heap.size
theorem NB.made (w : World) (t : TypeId) : NB (w.alloc (.cells #[.map none, .map none] t)) w.heap.size :=
  ⟨⟨none, by simp⟩, ⟨none, by simp⟩, fun i => by rw [World.frozen?_alloc_at _ _ _ _ rfl], by simp⟩
theorem NB.same {b : Nat} (h : NB v b) (e : v'.heap[b]? = v.heap[b]?) (hz : v.heap.size ≤ v'.heap.size) : NB v' b := by
  obtain ⟨u0, k0⟩ := h.c0
  obtain ⟨u1, k1⟩ := h.c1
  exact ⟨⟨u0, (World.cell?_of_block (a := ⟨b, 0, none⟩) e).trans k0⟩, ⟨u1, (World.cell?_of_block (a := ⟨b, 1, none⟩) e).trans k1⟩, fun i => (World.frozen?_of_block (a := ⟨b, i, none⟩) e).trans (h.f0 i), Nat.lt_of_lt_of_le h.lt hz⟩
theorem NB.g2 {b : Nat} (h : NB v b) (g : G2 tb ub v v') (h1 : b ≠ tb) (h2 : b ≠ ub) : NB v' b := h.same (g.block b h.lt h1 h2) g.size
theorem NB.fill {b : Nat} (h : NB v b) (g : G2 tb ub w v) (hb : w.heap.size ≤ b) (s s' : Option Nat) :
    ∃ Z, Z = (v.setCell ⟨b, 0, none⟩ (.map s)).setCell ⟨b, 1, none⟩ (.map s') ∧ Z.cell? ⟨b, 0, none⟩ = some (.map s) ∧ Z.cell? ⟨b, 1, none⟩ = some (.map s') ∧ G2 tb ub w Z ∧ (∀ k, k ≠ b → Z.heap[k]? = v.heap[k]?) ∧ v.grownBy Z (some b) := by
  obtain ⟨u0, k0⟩ := h.c0
  obtain ⟨u1, k1⟩ := h.c1
  have hblk : ∀ k, k ≠ b → ((v.setCell ⟨b, 0, none⟩ (.map s)).setCell ⟨b, 1, none⟩ (.map s')).heap[k]? = v.heap[k]? := fun k hk => (Below.heap_setCell _ _ _ _ (by simp; omega)).trans (Below.heap_setCell _ _ _ _ (by simp; omega))
  refine ⟨_, rfl, ?_, ?_, (g.set _ _ hb).set _ _ hb, hblk, ⟨rfl, rfl, rfl, by simp [World.setCell], fun k hk hne => hblk k (fun e => hne (by rw [e]))⟩⟩
  · rw [World.cell?_setCell_other _ _ _ _ (by simp)]
    exact World.cell?_setCell_same _ _ _ k0
  · exact World.cell?_setCell_same _ _ _ (by rw [World.cell?_setCell_other _ _ _ _ (by simp)]; exact k1)
end
noncomputable def lsM (l : List Lf) : Dt → Option ByteArray := l.foldl (fun g z => updF g (z.r, z.q) (some z.v)) (fun _ => none)
theorem lsM_app (l : List Lf) (z : Lf) : lsM (l ++ [z]) = updF (lsM l) (z.r, z.q) (some z.v) := by simp [lsM]
noncomputable def rdLv (f : Nat → Int) (n : Nat) (K : Int → Int → Bool) (kind : Int) (p : List ByteArray) (acc : List Lf) (x : Nat) : Option (List Lf × Nat) := (rd f n x 1000).bind fun a => if a.1 = 0 then none else rdLs f n K kind p a.1 (0, 0) acc a.2
def LvP (w : World) (tb B kb ub bs hi : Nat) (a : Option Addr) (n c : Nat) (f : Nat → Int) (aT aS aL aE : Addr) (L : Int → List (Int × Int)) (x : Nat) (acc : List Lf) (kind : Int) (p : List ByteArray) (e : Ending) (w' : World) : Prop := G2 tb ub w w' ∧
  ((∃ (l : List Lf) (x' s s' : Nat), rdLv f n (fun r q => inB (L r) q q) kind p acc x = some (acc ++ l, x') ∧ e = .returned (.tuple #[.agg #[.map (some s), .map (some s')], .nilIface]) ∧ TS w' tb B kb ub bs hi a n c f aT aS aL aE L ((x' : Nat) : Int) (acc ++ l) ∧ (acc ++ l).length ≤ 1000 ∧
      s ≠ s' ∧ w.heap.size ≤ s ∧ w.heap.size ≤ s' ∧ MapF w' 110 (α := Ky) keyV nodV s 0 (fun _ => none) ∧ MapF w' 87 (α := Dt) dtV mrkV s' l.length (lsM l)) ∨
   (rdLv f n (fun r q => inB (L r) q q) kind p acc x = none ∧ ∃ t v, e = .returned (.tuple #[.agg #[.map none, .map none], .iface t v])))
theorem rdLf_some {f : Nat → Int} (hf : Byt f) {n : Nat} {K : Int → Int → Bool} {kind : Int} {p : List ByteArray} {before : Dt} {acc : List Lf} {x x' : Nat} {z : Lf} (h : rdLf f n K kind p before acc x = some (z, x')) : 0 ≤ z.r ∧ z.r ≤ 7 ∧ 0 ≤ z.q ∧ z.q ≤ 1000000000 ∧ acc.length ≠ 1000 := by
  unfold rdLf at h
  obtain ⟨a1, h1, h⟩ := bind_some_iff.1 h
  obtain ⟨a2, h2, h⟩ := bind_some_iff.1 h
  have e1 := ((rd_iff hf (V := a1.1) (x' := a1.2)).1 h1).2.1
  have e2 := ((rd_iff hf (V := a2.1) (x' := a2.2)).1 h2).2.1
  split at h
  · rename_i hy
    have hl : acc.length ≠ 1000 := by
      intro e
      rw [yes_f (fun hh => hh.2.2.2 e)] at hy
      cases hy
    split at h
    · simp only [Option.some.injEq, Prod.mk.injEq] at h
      obtain ⟨rfl, _⟩ := h
      exact ⟨by simp, e1, by simp, e2, hl⟩
    · obtain ⟨t, _, h⟩ := bind_some_iff.1 h
      simp only [Option.some.injEq, Prod.mk.injEq] at h
      obtain ⟨rfl, _⟩ := h
      exact ⟨by simp, e1, by simp, e2, hl⟩
  · cases h
theorem leavesC (tb B kb ub bs hi : Nat) (a : Option Addr) (n c : Nat) (f : Nat → Int) (aT aS aL aE : Addr) (L : Int → List (Int × Int)) (x : Nat) (acc : List Lf) (kind : Int) (p : List ByteArray) (w : World) (hn : n ≤ 1048576) (hnc : n ≤ c) (hcc : c ≤ 4611686018427387904) (hf : Byt f) (hk : kind = 1 ∨ kind = 2)
    (hT : TS w tb B kb ub bs hi a n c f aT aS aL aE L (x : Int) acc) (hhi : hi ≤ w.heap.size) (hS : ∀ r, Srt (L r) ∧ (L r).length ≤ 1000000) (hl : acc.length ≤ 1000) :
    Calls Tryz.prog 73 #[.pointer (some ⟨tb, 0, none⟩), .int .i64 kind] w fun e w' => LvP w tb B kb ub bs hi a n c f aT aS aL aE L x acc kind p e w' := by
  obtain ⟨P, hP⟩ : ∃ P, LvP w tb B kb ub bs hi a n c f aT aS aL aE L x acc kind p = P := ⟨_, rfl⟩
  rw [hP]
  have HP := hid hP
  clear hP
  obtain ⟨W, hW⟩ : ∃ W, w.alloc (.cells #[.map none, .map none] 47) = W := ⟨_, rfl⟩
  have b0 : Below w.heap.size w W := by rw [← hW]; exact (Below.refl _ _).alloc (Nat.le_refl _) _
  have zW : W.heap.size = w.heap.size + 1 := by rw [← hW]; simp
  have HR0 : Hid (NB W w.heap.size) := hid (by rw [← hW]; exact NB.made _ _)
  have HT0 := hid (hT.below b0)
  have HG0 := hid (G2.below (tb := tb) (ub := ub) b0)
  have ht0 : tb < w.heap.size := hT.cur.lt
  have hu0 : ub < w.heap.size := hT.us.lt
  have hbt := hT.bt
  have HU := hid (numberC tb B a n c x 1000 f aT aS aL aE W hn hf HT0.out.cur HT0.out.seg (fun y hy => (hT.ab y hy).1) HT0.out.err hT.bt (by omega) (by omega))
  have HZ := hid zW
  have HF := hid hf
  have HS := hid hS
  have hwt : w.heap.size ≠ tb := by omega
  have hwu : w.heap.size ≠ ub := by omega
  have hww : w.heap.size ≤ w.heap.size := Nat.le_refl _
  clear hT b0 zW hf hS
  go_enter Tryz.func73, Tryz.ntmps73
  go_wp2_with fail
  try rw [hW]
  clear hW
  refine HU.out.mono ?_
  clear HU
  rintro e w1 ⟨g1, ⟨V, x1, hr, hV, rfl, cu⟩ | ⟨hr, t, v, y, rfl, cu⟩⟩
  · rw [rdI_nat] at hr
    have HT1 := hid (HT0.out.t g1 cu)
    have HG1 := hid (HG0.out.trans (G2.t g1))
    have HR1 := hid (HR0.out.g2 (G2.t (ub := ub) g1) hwt hwu)
    have HRd := hid hr
    clear g1 hr cu HT0 HG0 HR0
    by_cases h0 : V = 0
    · subst h0
      have HN : Hid (rdLv f n (fun r q => inB (L r) q q) kind p acc x = none) := hid (by unfold rdLv; rw [HRd.out]; rfl)
      obtain ⟨ev, ge⟩ := HT1.out.err.x6
      have lo : 8 < w.heap.size := Nat.lt_of_lt_of_le (Nat.lt_of_lt_of_le (by decide) HT1.out.err.lG) (Nat.le_trans hbt (Nat.le_of_lt ht0))
      obtain ⟨u0, k0⟩ := HR1.out.c0
      obtain ⟨u1, k1⟩ := HR1.out.c1
      have f0 := HR1.out.f0
      have ge1 : (w1.setCell ⟨w.heap.size, 0, none⟩ (.map none)).cell? ⟨8, 0, none⟩ = some (.iface 233 ev) := by rw [World.cell?_setCell_far _ _ _ _ (by simp; omega)]; exact ge
      have ge2 : ((w1.setCell ⟨w.heap.size, 0, none⟩ (.map none)).setCell ⟨w.heap.size, 1, none⟩ (.map none)).cell? ⟨8, 0, none⟩ = some (.iface 233 ev) := by rw [World.cell?_setCell_far _ _ _ _ (by simp; omega)]; exact ge1
      clear lo
      go_wp2_with fail
      go_region
      all_goals go_wp2_with fail
      all_goals (
        obtain ⟨Z, hZ, q0, q1, gZ, bZ, _⟩ := HR1.out.fill HG1.out hww none none
        rw [← hZ]
        clear hZ
        refine bodyPost_ret (v := .tuple #[.agg #[.map none, .map none], .iface 233 ev]) (by simp [results, Tryz.results73, go_sem, q0, q1]) rfl ?_
        rw [← HP.out]
        exact ⟨gZ.trans (G2.below (Below.refl _ _).drew), .inr ⟨HN.out, _, _, rfl⟩⟩)
    · have d0 : ((V : Int) == 0) = false := by simp; omega
      go_wp2_with fail
      refine (newNode w1).mono ?_
      rintro e w2 ⟨s, s', rfl, hss, hs1, hs2, m1, m2, b2⟩
      obtain ⟨W3, hW3⟩ : ∃ W3, (w2.alloc (.cells #[.map (some s), .map (some s')] 47)).alloc (.cells #[.int .i64 0, .int .i64 0] 87) = W3 := ⟨_, rfl⟩
      have b3 : Below w2.heap.size w2 W3 := by rw [← hW3]; exact below2 _ _ _
      have HX3 : Hid (Bx2 W3 w2.heap.size (.map (some s)) (.map (some s'))) := hid (by rw [← hW3]; exact (Bx2.made w2 _ _ _).allocs _)
      have HD3 : Hid (Bx2 W3 (w2.heap.size + 1) (.int .i64 0) (.int .i64 0)) := hid (by rw [← hW3]; simpa using Bx2.made (w2.alloc (.cells #[.map (some s), .map (some s')] 47)) (.int .i64 0) (.int .i64 0) 87)
      have b13 := keepS b2 b3
      have HT3 := hid (HT1.out.below b13)
      have HG3 := hid (HG1.out.trans (G2.below b13))
      have HR3 := hid (HR1.out.g2 (G2.below (tb := tb) (ub := ub) b13) hwt hwu)
      have HM1 := hid (m1.same (b3.block s m1.lt))
      have HM2 := hid (m2.same (b3.block s' m2.lt))
      have hz1 := HG1.out.size
      have hz0 := HR1.out.lt
      have hz2 := b2.size
      have hlt1 := m1.lt
      have hlt2 := m2.lt
      clear m1 m2 b2 b3 b13 HT1 HG1 HR1
      go_wp2_with fail
      try rw [hW3]
      clear hW3
      go_loopw [31] (fun iv wr => ∃ (k y : Nat) (l : List Lf) (br bq : Int), k ≤ V ∧ iv = .int .i64 (k : Int) ∧ l.length = k ∧ (acc ++ l).length ≤ 1000 ∧ w2.heap.size + 1 < wr.heap.size ∧ Hid (TS wr tb B kb ub bs hi a n c f aT aS aL aE L (y : Int) (acc ++ l)) ∧ Hid (G2 tb ub w wr) ∧ Hid (NB wr w.heap.size) ∧
        Hid (Bx2 wr w2.heap.size (.map (some s)) (.map (some s'))) ∧ Hid (Bx2 wr (w2.heap.size + 1) (.int .i64 br) (.int .i64 bq)) ∧ Hid (MapF wr 110 (α := Ky) keyV nodV s 0 (fun _ => none)) ∧ Hid (MapF wr 87 (α := Dt) dtV mrkV s' k (lsM l)) ∧
        Hid (rdLs f n (fun r q => inB (L r) q q) kind p V (0, 0) acc x1 = rdLs f n (fun r q => inB (L r) q q) kind p (V - k) (br, bq) (acc ++ l) y)) (fun iv _ => V - (intOf iv).toNat)
      case atStart => exact ⟨0, x1, [], 0, 0, Nat.zero_le _, rfl, rfl, by simpa using hl, HD3.out.lt, by simpa using HT3, HG3, HR3, HX3, HD3, HM1, HM2, hid (by simp)⟩
      case round =>
        obtain ⟨k, y, l, br, bq, hkV, rfl, hlk, hal, hz3, hT, hG, hR, hX, hD, hM1, hM2, hrd⟩ := hrel
        by_cases hlt : k < V
        · obtain ⟨m, hm⟩ : ∃ m, V - k = m + 1 := ⟨V - k - 1, by omega⟩
          have HLf := hid (leafC tb B kb ub bs hi a n c f aT aS aL aE L y (acc ++ l) kind p br bq wr hn hnc hcc HF.out hk hT.out (Nat.le_trans hhi hG.out.size) HS.out hal)
          have d0 := hD.out.c0
          have d1 := hD.out.c1
          obtain ⟨c0, c1, c2, _⟩ := hT.out.cur
          go_wp2_with fail
          clear c0 c1 c2 d0 d1
          refine HLf.out.mono ?_
          clear HLf
          rintro e w4 ⟨g4, ⟨z, x2, hz, rfl, t4⟩ | ⟨hz, lr, lq, ls, t, v, rfl⟩⟩
          · obtain ⟨zr0, zr1, zq0, zq1, hne⟩ := rdLf_some HF.out hz
            obtain ⟨kl, hkl⟩ := dotKey (wfI (r := z.r) (by omega) (by omega)) (wfI (r := z.q) (by omega) (by omega))
            have HKL := hid hkl
            have HRd4 : Hid (rdLs f n (fun r q => inB (L r) q q) kind p V (0, 0) acc x1 = rdLs f n (fun r q => inB (L r) q q) kind p (V - (k + 1)) (z.r, z.q) (acc ++ (l ++ [z])) x2) := hid (by
              rw [hrd.out, hm, show V - (k + 1) = m by omega]
              show (rdLf f n _ kind p (br, bq) (acc ++ l) y).bind _ = _
              rw [hz]
              simp only [Option.bind_some, List.append_assoc])
            obtain ⟨W5, hW5⟩ : ∃ W5, (w4.alloc (.cells #[.int .i64 z.r, .int .i64 z.q] 87)).alloc (.cells #[.string z.v] 122) = W5 := ⟨_, rfl⟩
            have b5 : Below w4.heap.size w4 W5 := by rw [← hW5]; exact below2 _ _ _
            have g5 : G2 tb ub wr W5 := g4.trans (G2.below b5)
            have Y5 : Bx2 W5 w4.heap.size (.int .i64 z.r) (.int .i64 z.q) := by rw [← hW5]; exact (Bx2.made w4 _ _ _).allocs _
            have M5 : W5.cell? ⟨w4.heap.size + 1, 0, none⟩ = some (.string z.v) := by rw [← hW5]; rw [World.cell?_alloc_at _ _ _ _ (by simp)]; rfl
            have hw4 := g4.size
            have hww3 := hG.out.size
            have X5 : Bx2 W5 w2.heap.size (.map (some s)) (.map (some s')) := ⟨(g5.cell (by omega) (by omega) (by omega)).trans hX.out.c0, (g5.cell (by omega) (by omega) (by omega)).trans hX.out.c1, fun i => (g5.frozen (by omega) (by omega) (by omega)).trans (hX.out.f i), Nat.lt_of_lt_of_le hX.out.lt g5.size⟩
            have D5 : Bx2 W5 (w2.heap.size + 1) (.int .i64 br) (.int .i64 bq) := ⟨(g5.cell (by omega) (by omega) (by omega)).trans hD.out.c0, (g5.cell (by omega) (by omega) (by omega)).trans hD.out.c1, fun i => (g5.frozen (by omega) (by omega) (by omega)).trans (hD.out.f i), Nat.lt_of_lt_of_le hD.out.lt g5.size⟩
            have HM5 := hid (hM2.out.same (g5.block s' hM2.out.lt (by omega) (by omega)))
            have HK5 := hid (hM1.out.same (g5.block s hM1.out.lt (by omega) (by omega)))
            have HT5 := hid (t4.below b5)
            have HG5 := hid (hG.out.trans g5)
            have HR5 := hid (hR.out.g2 g5 hwt hwu)
            have x0 := X5.c0
            have x1' := X5.c1
            have y0 := Y5.c0
            have y1 := Y5.c1
            have HX5 := hid X5
            have HD5 := hid D5
            have HY5 := hid Y5
            clear g4 g5 b5 hz t4 hkl hX hD hM1 hM2 hT hG hR hrd hm X5 D5 Y5
            obtain ⟨w9, r9, m9, g9⟩ := HM5.out.store dotKeyed (fun _ _ => dtV_inj) Tryz.underlying45 (by unfold maxLen; omega) (x := (z.r, z.q)) (y := z.v) HKL.out
            have hs'lt : s' < w2.heap.size := hlt2
            have cg : ∀ b i, b ≠ s' → b < W5.heap.size → w9.cell? ⟨b, i, none⟩ = W5.cell? ⟨b, i, none⟩ := fun b i h1 h2 => World.cell?_of_block (a := ⟨b, i, none⟩) (g9.block b h2 (fun e => h1 (by injection e)))
            have fg : ∀ b i, b ≠ s' → b < W5.heap.size → w9.frozen? ⟨b, i, none⟩ = W5.frozen? ⟨b, i, none⟩ := fun b i h1 h2 => World.frozen?_of_block (a := ⟨b, i, none⟩) (g9.block b h2 (fun e => h1 (by injection e)))
            have v0 := (cg w4.heap.size 0 (by omega) HY5.out.lt).trans HY5.out.c0
            have v1 := (cg w4.heap.size 1 (by omega) HY5.out.lt).trans HY5.out.c1
            have D9 : Bx2 w9 (w2.heap.size + 1) (.int .i64 br) (.int .i64 bq) := ⟨(cg _ 0 (by omega) HD5.out.lt).trans HD5.out.c0, (cg _ 1 (by omega) HD5.out.lt).trans HD5.out.c1, fun i => (fg _ i (by omega) HD5.out.lt).trans (HD5.out.f i), Nat.lt_of_lt_of_le HD5.out.lt g9.size⟩
            have X9 : Bx2 w9 w2.heap.size (.map (some s)) (.map (some s')) := ⟨(cg _ 0 (by omega) HX5.out.lt).trans HX5.out.c0, (cg _ 1 (by omega) HX5.out.lt).trans HX5.out.c1, fun i => (fg _ i (by omega) HX5.out.lt).trans (HX5.out.f i), Nat.lt_of_lt_of_le HX5.out.lt g9.size⟩
            have HT9 := hid (HT5.out.gr g9 (by omega))
            have HG9 := hid (HG5.out.gr g9 (by omega))
            have HR9 := hid (HR5.out.same (g9.block w.heap.size HR5.out.lt (fun e => by injection e with e; omega)) g9.size)
            have HK9 := hid (HK5.out.same (g9.block s HK5.out.lt (fun e => by injection e with e; omega)))
            have HM9 : Hid (MapF w9 87 (α := Dt) dtV mrkV s' (k + 1) (lsM (l ++ [z]))) := hid (by rw [lsM_app]; exact m9)
            obtain ⟨Zw, hZw⟩ : ∃ Zw, (w9.setCell ⟨w2.heap.size + 1, 0, none⟩ (.int .i64 z.r)).setCell ⟨w2.heap.size + 1, 1, none⟩ (.int .i64 z.q) = Zw := ⟨_, rfl⟩
            have gz : w9.grownBy Zw (some (w2.heap.size + 1)) := by
              rw [← hZw]
              exact ⟨rfl, rfl, rfl, by simp [World.setCell], fun j hj hne => (Below.heap_setCell _ _ _ _ (fun e => hne (by rw [e]))).trans (Below.heap_setCell _ _ _ _ (fun e => hne (by rw [e])))⟩
            have DZ : Bx2 Zw (w2.heap.size + 1) (.int .i64 z.r) (.int .i64 z.q) := by
              rw [← hZw]
              refine ⟨?_, ?_, fun i => ?_, by simpa [World.setCell] using D9.lt⟩
              · rw [World.cell?_setCell_other _ _ _ _ (by simp)]
                exact World.cell?_setCell_same _ _ _ D9.c0
              · exact World.cell?_setCell_same _ _ _ (by rw [World.cell?_setCell_other _ _ _ _ (by simp)]; exact D9.c1)
              · simpa using D9.f i
            have HDZ := hid DZ
            have HXZ : Hid (Bx2 Zw w2.heap.size (.map (some s)) (.map (some s'))) := hid (by
              have e := gz.block w2.heap.size X9.lt (fun e => by injection e with e; omega)
              exact ⟨(World.cell?_of_block (a := ⟨w2.heap.size, 0, none⟩) e).trans X9.c0, (World.cell?_of_block (a := ⟨w2.heap.size, 1, none⟩) e).trans X9.c1, fun i => (World.frozen?_of_block (a := ⟨w2.heap.size, i, none⟩) e).trans (X9.f i), Nat.lt_of_lt_of_le X9.lt gz.size⟩)
            have HTZ := hid (HT9.out.gr gz (by omega))
            have HGZ := hid (HG9.out.gr gz (by omega))
            have HRZ := hid (HR9.out.same (gz.block w.heap.size HR9.out.lt (fun e => by injection e with e; omega)) gz.size)
            have HKZ := hid (HK9.out.same (gz.block s HK9.out.lt (fun e => by injection e with e; omega)))
            have HMZ := hid (HM9.out.same (gz.block s' HM9.out.lt (fun e => by injection e with e; omega)))
            have e0 := D9.c0
            have e1 := D9.c1
            have ef := D9.f
            have hal2 : (acc ++ (l ++ [z])).length ≤ 1000 := by simp at hal hne ⊢; omega
            unfold dtV dotV mrkV at r9
            dsimp only at r9
            clear m9 g9 cg fg D9 X9 gz DZ HT9 HG9 HR9 HK9 HM9 HX5 HD5 HY5 HT5 HG5 HR5 HK5 HM5 HKL
            go_wp2_with fail
            try rw [hZw]
            go_roundw
            case rel => exact ⟨k + 1, x2, l ++ [z], z.r, z.q, hlt, by go_num, by simp [hlk], hal2, HDZ.out.lt, by rw [← List.append_assoc]; exact HTZ, HGZ, HRZ, HXZ, HDZ, HKZ, HMZ, HRd4⟩
            case measure => simp [intOf]; omega
          · have HN : Hid (rdLv f n (fun r q => inB (L r) q q) kind p acc x = none) := hid (by
              unfold rdLv
              rw [HRd.out]
              simp only [Option.bind_some]
              rw [if_neg h0, hrd.out, hm]
              show (rdLf f n _ kind p (br, bq) (acc ++ l) y).bind _ = _
              rw [hz]
              rfl)
            have bA : Below w4.heap.size w4 (((w4.alloc (.cells #[.int .i64 lr, .int .i64 lq] 87)).alloc (.cells #[.string ls] 122)).alloc (.cells #[.string ⟨#[108, 101, 97, 102]⟩, .int .i64 (y : Int), .iface t v] 82)) := (((Below.refl _ _).alloc (Nat.le_refl _) _).alloc (by simp) _).alloc (by simp; omega) _
            have HG5 := hid (hG.out.trans (g4.trans (G2.below bA)))
            have HR5 := hid (hR.out.g2 (g4.trans (G2.below bA)) hwt hwu)
            obtain ⟨u0, k0⟩ := HR5.out.c0
            obtain ⟨u1, k1⟩ := HR5.out.c1
            have f0 := HR5.out.f0
            clear g4 hz hX hD hM1 hM2 hT hG hR hrd hm bA
            go_wp2_with fail
            obtain ⟨Z, hZ, q0, q1, gZ, bZ, _⟩ := HR5.out.fill HG5.out hww none none
            rw [← hZ]
            clear hZ
            refine bodyPost_ret (v := .tuple #[.agg #[.map none, .map none], .iface 80 (.pointer (some ⟨w4.heap.size + 1 + 1, 0, none⟩))]) (by simp [results, Tryz.results73, go_sem, q0, q1]) rfl ?_
            rw [← HP.out]
            exact ⟨gZ, .inr ⟨HN.out, _, _, rfl⟩⟩
        · obtain rfl : k = V := by omega
          have HY : Hid (rdLv f n (fun r q => inB (L r) q q) kind p acc x = some (acc ++ l, y)) := hid (by
            unfold rdLv
            rw [HRd.out]
            simp only [Option.bind_some]
            rw [if_neg h0, hrd.out, Nat.sub_self]
            rfl)
          have x0 := hX.out.c0
          have x1' := hX.out.c1
          obtain ⟨u0, k0⟩ := hR.out.c0
          obtain ⟨u1, k1⟩ := hR.out.c1
          have f0 := hR.out.f0
          clear hrd
          go_wp2_with fail
          obtain ⟨Z, hZ, q0, q1, gZ, bZ, gg⟩ := hR.out.fill hG.out hww (some s) (some s')
          rw [← hZ]
          clear hZ
          refine bodyPost_ret (v := .tuple #[.agg #[.map (some s), .map (some s')], .nilIface]) (by simp [results, Tryz.results73, go_sem, q0, q1]) rfl ?_
          rw [← HP.out]
          have zz := HZ.out
          refine ⟨gZ, .inl ⟨l, y, s, s', HY.out, rfl, hT.out.gr gg hhi, hal, hss, by omega, by omega, hM1.out.same (bZ s (by omega)), ?_⟩⟩
          rw [hlk]
          exact hM2.out.same (bZ s' (by omega))
  · rw [rdI_nat] at hr
    have HN : Hid (rdLv f n (fun r q => inB (L r) q q) kind p acc x = none) := hid (by unfold rdLv; rw [hr]; rfl)
    have HG1 := hid (HG0.out.trans (G2.t g1))
    have HR1 := hid (HR0.out.g2 (G2.t (ub := ub) g1) hwt hwu)
    obtain ⟨u0, k0⟩ := HR1.out.c0
    obtain ⟨u1, k1⟩ := HR1.out.c1
    have f0 := HR1.out.f0
    clear g1 hr cu HG0 HR0 HT0
    go_wp2_with fail
    obtain ⟨Z, hZ, q0, q1, gZ, bZ, _⟩ := HR1.out.fill HG1.out hww none none
    rw [← hZ]
    clear hZ
    refine bodyPost_ret (v := .tuple #[.agg #[.map none, .map none], .iface t v]) (by simp [results, Tryz.results73, go_sem, q0, q1]) rfl ?_
    rw [← HP.out]
    exact ⟨gZ, .inr ⟨HN.out, _, _, rfl⟩⟩
end Go.Proofs.YtakmpmhjcngbbaaGreatDoor
namespace Go.Proofs.YtakmpmhjcngbbaaGreatDoor
open Go.ChangeShapes Go.WideShapes Go.ChangeAt Go.RowKit
theorem gL_mem {l : List Lf} {x : Lf} : x ∈ l ↔ ∃ j, j < l.length ∧ gL l j = x := by
  constructor
  · intro h
    obtain ⟨j, hj, e⟩ := List.getElem_of_mem h
    exact ⟨j, hj, by simp [gL, List.getD, hj, e]⟩
  · rintro ⟨j, hj, e⟩
    rw [← e]
    have : gL l j = l[j] := by simp [gL, List.getD, hj]
    rw [this]; exact List.getElem_mem hj
end Go.Proofs.YtakmpmhjcngbbaaGreatDoor
