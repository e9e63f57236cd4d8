import Derived.Test.YtbocofbigjbhgaaGreatNg38
import Derived.Deep.QuietTactic
import Derived.BigQuiet
set_option linter.unusedVariables false
set_option linter.unusedSimpArgs false

namespace Go.Proofs.YtbocofbigjbhgaaGreat
open Go.ChangeShapes Go.WideShapes Go.ChangeAt Go.RowKit Go.Maps
theorem gL_far {l : List Lf} {i : Nat} (h : ¬ i < l.length) : (gL l i).p = [] := by simp [gL, List.getD, h]
theorem jnZ_sm (S S' : Sx) : (jnZ S S').Sm := by
  cases hb : jnB S S' with
  | false => rw [jnZ_f hb]; exact ⟨by simp [Sx.mt], fun i => by simp [Sx.mt, gL], by simp [Sx.mt]⟩
  | true =>
    rw [jnZ_t hb]
    have h1 := hb
    unfold jnB at h1
    simp only [Bool.and_eq_true] at h1
    obtain ⟨⟨h1, h2⟩, h3⟩ := h1
    unfold jnF at h3
    simp only [Bool.and_eq_true, decide_eq_true_eq] at h3
    refine ⟨by omega, fun i => ?_, by omega⟩
    by_cases hi : i < (jnS S S').l.length
    · have := (jn_bd (stB_t h1) (stB_t h2) _ (gL_mem.2 ⟨i, hi, rfl⟩)).2.2.2
      omega
    · rw [gL_far hi]; simp
theorem SNj.low {w w' : World} {a x : Option Addr} {S : Sx} {lo : Nat} (h : SNj w lo a x S) (hb : Below w.heap.size w w') : SAt w' a x S := h w' hb.size (fun q _ h2 => hb.block q h2)
theorem SNj.box {v W6 : World} {lo U A : Nat} {a x : Option Addr} {S : Sx} (h : SNj v lo a x S) (hl : U ≤ lo) (hs : v.heap.size ≤ W6.heap.size) (hA : A < lo ∨ v.heap.size ≤ A) (hq : ∀ q, q ≠ A → q < v.heap.size → W6.heap[q]? = v.heap[q]?) : SNj W6 U a x S :=
  h.move hl hs (fun q h1 h2 => hq q (by omega) h2)
end Go.Proofs.YtbocofbigjbhgaaGreat

namespace Go.Proofs.YtbocofbigjbhgaaGreat
open Go.ChangeShapes Go.WideShapes Go.ChangeAt Go.RowKit Go.Maps
def EqS (A B : Sx) : Prop := A.l = B.l ∧ A.n = B.n ∧ ∀ i, i < A.n → A.R i = B.R i ∧ A.F i = B.F i ∧ A.T i = B.T i
theorem lf_eq {x y : Lf} : x = y ↔ cmpL x y = 0 ∧ x.v = y.v := by
  rw [cmpL_z]
  constructor
  · rintro rfl; exact ⟨rfl, rfl⟩
  · rintro ⟨h1, h2⟩
    obtain ⟨e1, e2, e3, e4⟩ := lfK_way h1
    obtain ⟨x1, x2, x3, x4, x5⟩ := x
    obtain ⟨y1, y2, y3, y4, y5⟩ := y
    dsimp only at e1 e2 e3 e4 h2
    subst e1; subst e2; subst e3; subst e4; subst h2; rfl
theorem gL_all {l m : List Lf} (hl : l.length = m.length) (h : ∀ i, i < l.length → gL l i = gL m i) : l = m := by
  refine List.ext_getElem hl fun i h1 h2 => ?_
  have := h i h1
  simpa [gL, List.getD, h1, h2] using this
set_option maxRecDepth 100000 in
set_option maxHeartbeats 1000000 in
theorem sameLeafC (a a' : Option Addr) (c c' : Nat) (p p' : List ByteArray) (fl fl' : Bool) (r q r' q' : Int) (v v' : ByteArray) (w : World) (hn : p.length ≤ 1048576) (hn' : p'.length ≤ 1048576) (h : SSeg w a p) (h' : SSeg w a' p') :
    Calls Tryz.prog 39 #[.agg #[.slice a p.length c, .bool fl, .int .i64 r, .int .i64 q, .string v], .agg #[.slice a' p'.length c', .bool fl', .int .i64 r', .int .i64 q', .string v']] w fun e w' => e = .returned (.bool (yes ((⟨p, fl, r, q, v⟩ : Lf) = ⟨p', fl', r', q', v'⟩))) ∧ Below w.heap.size w w' := by
  obtain ⟨W, hW⟩ : ∃ W, (w.alloc (.cells #[.slice a p.length c, .bool fl, .int .i64 r, .int .i64 q, .string v] 74)).alloc (.cells #[.slice a' p'.length c', .bool fl', .int .i64 r', .int .i64 q', .string v'] 74) = W := ⟨_, rfl⟩
  have b0 : Below w.heap.size w W := by rw [← hW]; exact below2 _ _ _
  have X0 : Bx5 W w.heap.size (.slice a p.length c) (.bool fl) (.int .i64 r) (.int .i64 q) (.string v) := by rw [← hW]; exact (Bx5.new _ _ _ _ _ _ _).up _
  have Y0 : Bx5 W (w.heap.size + 1) (.slice a' p'.length c') (.bool fl') (.int .i64 r') (.int .i64 q') (.string v') := by
    rw [← hW]
    simpa using Bx5.new (w.alloc (.cells #[.slice a p.length c, .bool fl, .int .i64 r, .int .i64 q, .string v] 74)) (.slice a' p'.length c') (.bool fl') (.int .i64 r') (.int .i64 q') (.string v') 74
  have HS := hid (compareLeaves a a' c c' p p' fl fl' r q r' q' v v' W hn hn' (h.below b0) (h'.below b0))
  have HB0 := hid b0
  have HX := hid X0
  have HY := hid Y0
  have k0 := X0.c0
  have k1 := X0.c1
  have k2 := X0.c2
  have k3 := X0.c3
  have k4 := X0.c4
  have l0 := Y0.c0
  have l1 := Y0.c1
  have l2 := Y0.c2
  have l3 := Y0.c3
  have l4 := Y0.c4
  have HE : Hid (yes ((⟨p, fl, r, q, v⟩ : Lf) = ⟨p', fl', r', q', v'⟩) = true ↔ cmpL ⟨p, fl, r, q, v⟩ ⟨p', fl', r', q', v'⟩ = 0 ∧ v = v') := hid (by
    rw [← show ((⟨p, fl, r, q, v⟩ : Lf) = ⟨p', fl', r', q', v'⟩ ↔ cmpL ⟨p, fl, r, q, v⟩ ⟨p', fl', r', q', v'⟩ = 0 ∧ v = v') from lf_eq]
    exact ⟨fun e => Classical.byContradiction (fun hn => by rw [yes_f hn] at e; cases e), fun e => yes_t e⟩)
  obtain ⟨B, hB⟩ : ∃ B, yes ((⟨p, fl, r, q, v⟩ : Lf) = ⟨p', fl', r', q', v'⟩) = B := ⟨_, rfl⟩
  obtain ⟨x, hx⟩ : ∃ x, cmpL ⟨p, fl, r, q, v⟩ ⟨p', fl', r', q', v'⟩ = x := ⟨_, rfl⟩
  rw [hB, hx] at HE
  rw [hx] at HS
  rw [hB]
  clear b0 h h' hB hx X0 Y0
  go_enter Tryz.func39, Tryz.ntmps39
  go_wp2_with fail
  try rw [hW]
  clear hW
  refine HS.out.mono ?_
  rintro e w1 ⟨rfl, b1⟩
  have HB1 := hid (keepS HB0.out b1)
  have m4 := (HX.out.below b1 HX.out.lt).c4
  have n4 := (HY.out.below b1 HY.out.lt).c4
  have hno : ¬ (x = 0 ∧ v = v') → Hid (B = false) := fun hn => hid (by
    cases hb : B with
    | false => rfl
    | true => exact absurd (HE.out.1 hb) hn)
  clear b1 k0 k1 k2 k3 k4 l0 l1 l2 l3 l4 HS HB0
  by_cases h0 : x = 0
  · have e0 : (x == 0) = true := by simp [h0]
    by_cases h3 : v = v'
    · have e3 : (v.toList == v'.toList) = true := by simp [h3]
      have HG : Hid (B = true) := hid (HE.out.2 ⟨h0, h3⟩)
      clear HE hno h0 h3
      go_wp2_with fail
      go_ret
      exact ⟨ret_b HG.out.symm, HB1.out⟩
    · have e3 : (v.toList == v'.toList) = false := by simpa using fun h => h3 (toList_inj h)
      have HG := hno (fun h => h3 h.2)
      clear HE hno h0 h3
      go_wp2_with fail
      go_ret
      exact ⟨ret_b HG.out.symm, HB1.out⟩
  · have e0 : (x == 0) = false := by simpa using h0
    have HG := hno (fun h => h0 h.1)
    clear HE hno h0
    go_wp2_with fail
    go_ret
    exact ⟨ret_b HG.out.symm, HB1.out⟩
set_option maxRecDepth 100000 in
set_option maxHeartbeats 2000000 in
theorem eqFuncX (a a' : Option Addr) (c c' : Nat) (l l' : List Lf) (w : World) (hl : l.length ≤ 1048576) (hl' : l'.length ≤ 1048576) (hp : LBd l) (hp' : LBd l') (h : LSeg w a l) (h' : LSeg w a' l') :
    Calls Tryz.prog 38 #[.slice a l.length c, .slice a' l'.length c', .func (.func 39) #[] #[]] w fun e w' => e = .returned (.bool (yes (l = l'))) ∧ Below w.heap.size w w' := by
  obtain ⟨B, hB⟩ : ∃ B, yes (l = l') = B := ⟨_, rfl⟩
  have HBV := hid hB
  rw [hB]
  clear hB
  by_cases hlen : l.length = l'.length
  · obtain ⟨n, hn1⟩ : ∃ n, l.length = n := ⟨_, rfl⟩
    have hn2 : l'.length = n := by omega
    rw [hn1, hn2]
    have hnn : n ≤ 1048576 := by omega
    have d0 : ((n : Int) != (n : Int)) = false := by simp
    have HNN := hid (And.intro hn1 hn2)
    have HL := hid h
    have HL' := hid h'
    have HP := hid hp
    have HP' := hid hp'
    clear h h' hp hp' hlen hn1 hn2 hl hl'
    go_enter Tryz.func38, Tryz.ntmps38
    go_wp2_with fail
    go_loopw [17] (fun i wr => ∃ j : Nat, j ≤ n ∧ i = .int .i64 j ∧ Hid (Below w.heap.size w wr) ∧ Hid (∀ t, t < j → gL l t = gL l' t)) (fun i _ => n - (intOf i).toNat)
    case atStart => exact ⟨0, Nat.zero_le _, rfl, hid (Below.refl _ _), hid (fun t ht => by omega)⟩
    case round =>
      obtain ⟨j, hj, rfl, HB, HN⟩ := hrel
      by_cases hlt : j < n
      · have i1 : (0 : Int) ≤ (j : Int) := Int.natCast_nonneg _
        have i2 : (j : Int) < (n : Int) := by omega
        obtain ⟨b, off, rfl, hb, hcs⟩ := (HL.out.below HB.out).resolve_left (by have := HNN.out; omega)
        obtain ⟨pa, pc, c0, sg, c1, c2, c3, c4⟩ := hcs j (by have := HNN.out; omega)
        obtain ⟨b', off', rfl, hb', hcs'⟩ := (HL'.out.below HB.out).resolve_left (by have := HNN.out; omega)
        obtain ⟨pa', pc', e0, sg', e1, e2, e3, e4⟩ := hcs' j (by have := HNN.out; omega)
        have HCA := hid (fun w1 (b1 : Below wr.heap.size wr w1) => sameLeafC pa pa' pc pc' (gL l j).p (gL l' j).p (gL l j).fl (gL l' j).fl (gL l j).r (gL l j).q (gL l' j).r (gL l' j).q (gL l j).v (gL l' j).v w1 (HP.out j) (HP'.out j) (sg.below b1) (sg'.below b1))
        obtain ⟨y, hy⟩ : ∃ y, gL l j = y := ⟨_, rfl⟩
        obtain ⟨z, hz⟩ : ∃ z, gL l' j = z := ⟨_, rfl⟩
        rw [hy] at c0 c1 c2 c3 c4
        rw [hz] at e0 e1 e2 e3 e4
        rw [hy, hz] at HCA
        have HYZ := hid (And.intro hy hz)
        obtain ⟨yp, yf, yr, yq, yv⟩ := y
        obtain ⟨zp, zf, zr, zq, zv⟩ := z
        dsimp only at c0 c1 c2 c3 c4 e0 e1 e2 e3 e4 HCA
        obtain ⟨C, hC⟩ : ∃ C, yes ((⟨yp, yf, yr, yq, yv⟩ : Lf) = ⟨zp, zf, zr, zq, zv⟩) = C := ⟨_, rfl⟩
        have HCV := hid hC
        rw [hC] at HCA
        obtain ⟨w1, hw1⟩ : ∃ w1, wr.alloc (.cells #[.slice pa yp.length pc, .bool yf, .int .i64 yr, .int .i64 yq, .string yv] 74) = w1 := ⟨_, rfl⟩
        have b1 : Below wr.heap.size wr w1 := by rw [← hw1]; exact (Below.refl _ _).alloc (Nat.le_refl _) _
        have HX1 : Hid (Bx5 w1 wr.heap.size (.slice pa yp.length pc) (.bool yf) (.int .i64 yr) (.int .i64 yq) (.string yv)) := hid (by rw [← hw1]; exact Bx5.new _ _ _ _ _ _ _)
        have q := fun o => b1.cell (p := ⟨b', o, none⟩) hb'
        have g0 := (q (off' + j * 5)).trans e0
        have g1 := (q (off' + j * 5 + 1)).trans e1
        have g2 := (q (off' + j * 5 + 2)).trans e2
        have g3 := (q (off' + j * 5 + 3)).trans e3
        have g4 := (q (off' + j * 5 + 4)).trans e4
        obtain ⟨w2, hw2⟩ : ∃ w2, w1.alloc (.cells #[.slice pa' zp.length pc', .bool zf, .int .i64 zr, .int .i64 zq, .string zv] 74) = w2 := ⟨_, rfl⟩
        have b2 : Below w1.heap.size w1 w2 := by rw [← hw2]; exact (Below.refl _ _).alloc (Nat.le_refl _) _
        have X2 := HX1.out.below b2 HX1.out.lt
        have Y2 : Bx5 w2 w1.heap.size (.slice pa' zp.length pc') (.bool zf) (.int .i64 zr) (.int .i64 zq) (.string zv) := by rw [← hw2]; exact Bx5.new _ _ _ _ _ _ _
        have HB2 := hid (keepS b1 b2)
        have x0 := X2.c0
        have x1 := X2.c1
        have x2 := X2.c2
        have x3 := X2.c3
        have x4 := X2.c4
        have y0 := Y2.c0
        have y1 := Y2.c1
        have y2 := Y2.c2
        have y3 := Y2.c3
        have y4 := Y2.c4
        clear hy hz hC hcs hcs' sg sg' q e0 e1 e2 e3 e4 b1 b2 X2 Y2
        go_wp2_with fail
        refine (HCA.out w2 HB2.out).mono ?_
        rintro e w3 ⟨rfl, b3⟩
        have HB3 := hid (HB.out.trans ((keepS HB2.out b3).mono HB.out.size))
        clear x0 x1 x2 x3 x4 y0 y1 y2 y3 y4 g0 g1 g2 g3 g4 c0 c1 c2 c3 c4 b3 HCA hw1 hw2
        cases C with
        | true =>
          have HN1 : Hid (∀ t, t < j + 1 → gL l t = gL l' t) := hid (fun t ht => by
            by_cases e : t = j
            · rw [e, HYZ.out.1, HYZ.out.2]; exact Classical.byContradiction fun hn => by have := HCV.out; rw [yes_f hn] at this; cases this
            · exact HN.out t (by omega))
          clear HN HB
          go_wp2_with fail
          go_roundw
          case rel => exact ⟨j + 1, hlt, by go_num, HB3, HN1⟩
          case measure => simp [intOf]; omega
        | false =>
          have HG : Hid (B = false) := hid (by
            rw [← HBV.out]
            refine yes_f fun e => ?_
            have := HCV.out
            rw [yes_t (by rw [← HYZ.out.1, ← HYZ.out.2, e])] at this
            cases this)
          go_wp2_with fail
          go_ret
          exact ⟨ret_b HG.out.symm, HB3.out⟩
      · obtain rfl : j = n := by omega
        have HG : Hid (B = true) := hid (by rw [← HBV.out]; exact yes_t (gL_all (by have := HNN.out; omega) (fun i hi => HN.out i (by have := HNN.out; omega))))
        go_wp2_with fail
        go_ret
        exact ⟨ret_b HG.out.symm, HB.out⟩
  · have d0 : ((l.length : Int) != (l'.length : Int)) = true := by simp; omega
    have HG : Hid (B = false) := hid (by rw [← HBV.out]; exact yes_f (fun e => hlen (by rw [e])))
    go_enter Tryz.func38, Tryz.ntmps38
    go_wp2_with fail
    go_ret
    exact ⟨ret_b HG.out.symm, Below.refl _ _⟩
end Go.Proofs.YtbocofbigjbhgaaGreat

namespace Go.Proofs.YtbocofbigjbhgaaGreat
open Go.ChangeShapes Go.WideShapes Go.ChangeAt Go.RowKit Go.Maps
set_option maxRecDepth 100000 in
theorem jrunF : Tryz.prog.fieldsOf 76 = match Tryz.prog.underlying 76 with | some (.struct fs) => fs | _ => #[] := rfl
theorem jrunStood : Tryz.prog.stoodInHeld 76 = false := by kernel_rfl
set_option maxRecDepth 100000 in
theorem neqRun (r f t r' f' t' : Int) (w : World) : (binOp .neq 76 (.agg #[.int .i64 r, .int .i64 f, .int .i64 t]) (.agg #[.int .i64 r', .int .i64 f', .int .i64 t'])).run Tryz.prog w = .ok (.bool (!(r == r' && (f == f' && t == t')))) w := by
  rw [run_neq_struct, show (10000 : Nat) = 9999 + 1 from rfl, run_equalIn_agg _ _ _ _ _ (by kernel_rfl) jrunStood, jrunF, Tryz.underlying76]
  cases h1 : (r == r') <;> cases h2 : (f == f') <;> simp [Op.eqFields, go_sem, Tryz.underlying3, h1, h2]
  by_cases h3 : t = t' <;> simp [h3]
def EqR (n : Nat) (R F T : Nat → Int) (n' : Nat) (R' F' T' : Nat → Int) : Prop := n = n' ∧ ∀ i, i < n → R i = R' i ∧ F i = F' i ∧ T i = T' i
set_option maxRecDepth 100000 in
set_option maxHeartbeats 2000000 in
theorem eqRunsX (a a' : Option Addr) (c c' n n' : Nat) (R F T R' F' T' : Nat → Int) (w : World) (hl : n ≤ 1048576) (hl' : n' ≤ 1048576) (h : RSeg w a n R F T) (h' : RSeg w a' n' R' F' T') :
    Calls Tryz.prog 40 #[.slice a n c, .slice a' n' c'] w fun e w' => e = .returned (.bool (yes (EqR n R F T n' R' F' T'))) ∧ Below w.heap.size w w' := by
  obtain ⟨B, hB⟩ : ∃ B, yes (EqR n R F T n' R' F' T') = B := ⟨_, rfl⟩
  have HBV := hid hB
  rw [hB]
  clear hB
  by_cases hlen : n = n'
  · subst hlen
    have d0 : ((n : Int) != (n : Int)) = false := by simp
    have HL := hid h
    have HL' := hid h'
    clear h h' hl'
    go_enter Tryz.func40, Tryz.ntmps40
    go_wp2_with fail
    go_loopw [13] (fun i wr => ∃ j : Nat, j ≤ n ∧ i = .int .i64 j ∧ Hid (Below w.heap.size w wr) ∧ Hid (∀ t, t < j → R t = R' t ∧ F t = F' t ∧ T t = T' t)) (fun i _ => n - (intOf i).toNat)
    case atStart => exact ⟨0, Nat.zero_le _, rfl, hid (Below.refl _ _), hid (fun t ht => by omega)⟩
    case round =>
      obtain ⟨j, hj, rfl, HB, HN⟩ := hrel
      by_cases hlt : j < n
      · have i1 : (0 : Int) ≤ (j : Int) := Int.natCast_nonneg _
        have i2 : (j : Int) < (n : Int) := by omega
        obtain ⟨b, o, rfl, hb, c0, c1, c2⟩ := (HL.out.below HB.out).at hlt
        obtain ⟨b', o', rfl, hb', e0, e1, e2⟩ := (HL'.out.below HB.out).at hlt
        obtain ⟨r, hr⟩ : ∃ x, R j = x := ⟨_, rfl⟩
        obtain ⟨f, hf⟩ : ∃ x, F j = x := ⟨_, rfl⟩
        obtain ⟨t, ht⟩ : ∃ x, T j = x := ⟨_, rfl⟩
        obtain ⟨r', hr'⟩ : ∃ x, R' j = x := ⟨_, rfl⟩
        obtain ⟨f', hf'⟩ : ∃ x, F' j = x := ⟨_, rfl⟩
        obtain ⟨t', ht'⟩ : ∃ x, T' j = x := ⟨_, rfl⟩
        rw [hr] at c0
        rw [hf] at c1
        rw [ht] at c2
        rw [hr'] at e0
        rw [hf'] at e1
        rw [ht'] at e2
        have HV := hid (And.intro (And.intro hr (And.intro hf ht)) (And.intro hr' (And.intro hf' ht')))
        have NQ : ∀ w : World, (binOp .neq 76 (.agg #[.int .i64 r, .int .i64 f, .int .i64 t]) (.agg #[.int .i64 r', .int .i64 f', .int .i64 t'])).run Tryz.prog w = .ok (.bool (!(r == r' && (f == f' && t == t')))) w := fun w => neqRun r f t r' f' t' w
        by_cases he : r = r' ∧ f = f' ∧ t = t'
        · have q1 : (!(r == r' && (f == f' && t == t'))) = false := by simp [he.1, he.2.1, he.2.2]
          rw [q1] at NQ
          have HN1 : Hid (∀ u, u < j + 1 → R u = R' u ∧ F u = F' u ∧ T u = T' u) := hid (fun u hu => by
            by_cases e : u = j
            · have h1 := HV.out
              rw [e, h1.1.1, h1.1.2.1, h1.1.2.2, h1.2.1, h1.2.2.1, h1.2.2.2]; exact he
            · exact HN.out u (by omega))
          clear he q1 hr hf ht hr' hf' ht'
          go_wp2_with fail
          go_region
          go_wp2_with fail
          go_roundw
          case rel => exact ⟨j + 1, hlt, by go_num, hid HB.out.drew, HN1⟩
          case measure => simp [intOf]; omega
        · have q1 : (!(r == r' && (f == f' && t == t'))) = true := by
            cases hb : (r == r' && (f == f' && t == t')) with
            | false => rfl
            | true => exact absurd (by simpa using hb) he
          rw [q1] at NQ
          have HG : Hid (B = false) := hid (by
            rw [← HBV.out]
            refine yes_f fun e => he ?_
            have h1 := HV.out
            have h2 := e.2 j hlt
            rw [h1.1.1, h1.1.2.1, h1.1.2.2, h1.2.1, h1.2.2.1, h1.2.2.2] at h2; exact h2)
          clear he q1 hr hf ht hr' hf' ht'
          go_wp2_with fail
          go_region
          go_wp2_with fail
          go_ret
          exact ⟨ret_b HG.out.symm, HB.out.drew⟩
      · obtain rfl : j = n := by omega
        have HG : Hid (B = true) := hid (by rw [← HBV.out]; exact yes_t ⟨rfl, HN.out⟩)
        go_wp2_with fail
        go_ret
        exact ⟨ret_b HG.out.symm, HB.out⟩
  · have d0 : ((n : Int) != (n' : Int)) = true := by simp; omega
    have HG : Hid (B = false) := hid (by rw [← HBV.out]; exact yes_f (fun e => hlen e.1))
    go_enter Tryz.func40, Tryz.ntmps40
    go_wp2_with fail
    go_ret
    exact ⟨ret_b HG.out.symm, Below.refl _ _⟩
set_option maxRecDepth 100000 in
set_option maxHeartbeats 1000000 in
theorem sameStateX (a x a' x' : Option Addr) (c d c' d' : Nat) (A A' : Sx) (w : World) (hm : A.Sm) (hm' : A'.Sm) (h : SAt w a x A) (h' : SAt w a' x' A') :
    Calls Tryz.prog 19 #[.agg #[.slice a A.l.length c, .slice x A.n d], .agg #[.slice a' A'.l.length c', .slice x' A'.n d']] w fun e w' => e = .returned (.bool (yes (EqS A A'))) ∧ Below w.heap.size w w' := by
  obtain ⟨W, hW⟩ : ∃ W, (w.alloc (.cells #[.slice a A.l.length c, .slice x A.n d] 35)).alloc (.cells #[.slice a' A'.l.length c', .slice x' A'.n d'] 35) = W := ⟨_, rfl⟩
  have b0 : Below w.heap.size w W := by rw [← hW]; exact below2 _ _ _
  have X0 : Bx2 W w.heap.size (.slice a A.l.length c) (.slice x A.n d) := by rw [← hW]; exact (Bx2.made w _ _ _).allocs _
  have Y0 : Bx2 W (w.heap.size + 1) (.slice a' A'.l.length c') (.slice x' A'.n d') := by rw [← hW]; simpa using Bx2.made (w.alloc (.cells #[.slice a A.l.length c, .slice x A.n d] 35)) (.slice a' A'.l.length c') (.slice x' A'.n d') 35
  have HL := hid (eqFuncX a a' c c' A.l A'.l W hm.l1 hm'.l1 hm.p1 hm'.p1 (h.below b0).lf (h'.below b0).lf)
  have HR := hid (fun w1 (b1 : Below W.heap.size W w1) => eqRunsX x x' d d' A.n A'.n A.R A.F A.T A'.R A'.F A'.T w1 hm.n1 hm'.n1 ((h.below b0).below b1).rn ((h'.below b0).below b1).rn)
  have HB0 := hid b0
  have HX := hid X0
  have HY := hid Y0
  have k0 := X0.c0
  have k1 := X0.c1
  have l0 := Y0.c0
  have l1 := Y0.c1
  obtain ⟨B, hB⟩ : ∃ B, yes (EqS A A') = B := ⟨_, rfl⟩
  obtain ⟨B1, hB1⟩ : ∃ B, yes (A.l = A'.l) = B := ⟨_, rfl⟩
  obtain ⟨B2, hB2⟩ : ∃ B, yes (EqR A.n A.R A.F A.T A'.n A'.R A'.F A'.T) = B := ⟨_, rfl⟩
  have HE : Hid (B = (B1 && B2)) := hid (by
    rw [← hB, ← hB1, ← hB2]
    by_cases h1 : A.l = A'.l
    · by_cases h2 : EqR A.n A.R A.F A.T A'.n A'.R A'.F A'.T
      · rw [yes_t h1, yes_t h2, yes_t (show EqS A A' from ⟨h1, h2⟩)]; rfl
      · rw [yes_t h1, yes_f h2, yes_f (fun e : EqS A A' => h2 e.2)]; rfl
    · rw [yes_f h1, yes_f (fun e : EqS A A' => h1 e.1)]; rfl)
  rw [hB1] at HL
  rw [hB2] at HR
  rw [hB]
  clear b0 X0 Y0 h h' hB hB1 hB2
  go_enter Tryz.func19, Tryz.ntmps19
  go_wp2_with fail
  try rw [hW]
  clear hW
  refine HL.out.mono ?_
  rintro e w1 ⟨rfl, b1⟩
  have HB1 := hid (keepS HB0.out b1)
  cases B1 with
  | false =>
    have HG : Hid (B = false) := hid HE.out
    clear HE b1
    go_wp2_with fail
    go_ret
    exact ⟨ret_b HG.out.symm, HB1.out⟩
  | true =>
    have m1 := (HX.out.below b1 HX.out.lt).c1
    have m3 := (HY.out.below b1 HY.out.lt).c1
    have HCA := hid (HR.out w1 b1)
    clear b1
    go_wp2_with fail
    refine HCA.out.mono ?_
    rintro e w2 ⟨rfl, b2⟩
    have HB2 := hid (keepS HB1.out b2)
    have HG : Hid (B = B2) := hid (by have := HE.out; simpa using this)
    clear HE b2
    go_wp2_with fail
    go_ret
    exact ⟨ret_b HG.out.symm, HB2.out⟩
end Go.Proofs.YtbocofbigjbhgaaGreat

