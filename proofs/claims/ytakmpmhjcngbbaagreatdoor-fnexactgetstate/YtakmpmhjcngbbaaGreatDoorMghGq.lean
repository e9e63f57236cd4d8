import Derived.Test.YtakmpmhjcngbbaaGreatDoorMgg17
set_option linter.unusedVariables false
set_option linter.unusedSimpArgs false
set_option maxRecDepth 100000
set_option maxHeartbeats 40000000
namespace Go.Proofs.YtakmpmhjcngbbaaGreatDoor
open Go.ChangeShapes Go.WideShapes Go.ChangeAt Go.RowKit Go.Maps
variable {EX : Nat → Option Value}
theorem rdSpans_len {f : Nat → Int} {n : Nat} : ∀ (k : Nat) (least : Int) (x : Nat) (l : List (Int × Int)) (x' : Nat), rdSpans f n k least x = some (l, x') → l.length = k := by
  intro k
  induction k with
  | zero => intro least x l x' h; simp [rdSpans] at h; simp [← h.1]
  | succ k ih =>
    intro least x l x' h
    rw [rdSpans_succ] at h
    obtain ⟨a, h1, h⟩ := Option.bind_eq_some_iff.1 h
    obtain ⟨b, h2, h⟩ := Option.bind_eq_some_iff.1 h
    injection h with h
    injection h with h3 h4
    rw [← h3]
    simp [ih _ _ b.1 b.2 h2]
noncomputable def rdRep (f : Nat → Int) (n : Nat) (before left : Int) (x : Nat) : Option ((Int × List (Int × Int)) × Nat) :=
  (rd f n x 7).bind fun a => if (a.1 : Int) ≤ before then none else (rdSp f n left a.2).bind fun b => some (((a.1 : Int), b.1), b.2)
theorem rdReps_succ (f : Nat → Int) (n k : Nat) (before left : Int) (x : Nat) : rdReps f n (k + 1) before left x = (rdRep f n before left x).bind fun a => (rdReps f n k a.1.1 (left - (a.1.2.length : Int)) a.2).bind fun d => some (a.1 :: d.1, d.2) := by
  unfold rdRep rdSp
  rw [rdReps]
  cases h1 : rd f n x 7 with
  | none => rfl
  | some a =>
    simp only [Option.bind_some]
    split
    · rfl
    · cases h2 : rd f n a.2 left with
      | none => rfl
      | some b =>
        simp only [Option.bind_some]
        split
        · rfl
        · cases h3 : rdSpans f n b.1 1 b.2 with
          | none => rfl
          | some c =>
            simp only [Option.bind_some]
            rw [rdSpans_len b.1 1 b.2 c.1 c.2 h3]
theorem replicaC (cb B : Nat) (a : Option Addr) (n c x : Nat) (before left : Int) (f : Nat → Int) (aT aS aL aE : Addr) (w : World) (hn : n ≤ 1048576) (hf : Byt f) (hcur : Cur EX w cb a n c (x : Int)) (hs : Seg w a n f) (hab : ∀ y, a = some y → y.block ≠ cb) (hE : Errs w B aT aS aL aE) (hBc : B ≤ cb)
    (hl0 : -1000 ≤ left) (hl1 : left ≤ 1000) :
    Calls Tryz.prog 69 #[.pointer (some ⟨cb, 0, none⟩), .int .i64 before, .int .i64 left] w fun e w' => w.grownBy w' (some cb) ∧
      ((∃ (r : Int) (l : List (Int × Int)) (x' : Nat) (v : Value), rdRep f n before left x = some ((r, l), x') ∧ before < r ∧ 0 ≤ r ∧ r ≤ 7 ∧ l ≠ [] ∧ (l.length : Int) ≤ left ∧ e = .returned (.tuple #[.int .i64 r, v, .nilIface]) ∧ SR w' w.heap.size v l ∧ Cur EX w' cb a n c (x' : Int)) ∨
       (rdRep f n before left x = none ∧ ∃ (r : Int) (t : TypeId) (v : Value) (y : Int), e = .returned (.tuple #[.int .i64 r, .slice none 0 0, .iface t v]) ∧ Cur EX w' cb a n c y)) := by
  have hcl := hcur.lt
  have HU := hid (numberC cb B a n c x 7 f aT aS aL aE w hn hf hcur hs hab hE hBc (by omega) (by omega))
  have HE := hid hE
  have HS := hid hs
  clear hE hcur hs
  go_enter Tryz.func69, Tryz.ntmps69
  go_wp2_with fail
  refine HU.out.mono ?_
  rintro e w1 ⟨g1, ⟨V, x1, hr, hV, rfl, cu⟩ | ⟨hr, t, v, y, rfl, cu⟩⟩
  · rw [rdI_nat] at hr
    have HG := hid g1
    have HC := hid cu
    have z1 := g1.size
    have HE1 := hid (HE.out.grown g1 hBc hcl)
    by_cases h0 : (V : Int) ≤ before
    · have HR : Hid (rdRep f n before left x = none) := by unfold rdRep; rw [hr]; exact hid (if_pos h0)
      obtain ⟨vO, hgO⟩ := HE1.out.gO
      have d0 : decide ((V : Int) ≤ before) = true := by simpa using h0
      clear g1 hr cu HU HE
      go_wp2_with fail
      go_quiet (fail)
      go_wp2_with fail
      go_ret3
      exact ⟨grown_trans HG.out (grown_drewN _ _ _), .inr ⟨HR.out, _, _, _, _, rfl, HC.out.below (below_drewN (Below.refl _ _) _) HC.out.lt⟩⟩
    · have HR : Hid (rdRep f n before left x = (rdSp f n left x1).bind fun b => some (((V : Int), b.1), b.2)) := by unfold rdRep; rw [hr]; exact hid (if_neg h0)
      have HSP := hid (spansC cb B a n c x1 left f aT aS aL aE w1 hn hf cu (HS.out.grown g1 hab) hab HE1.out hBc hl0 hl1)
      have d0 : decide ((V : Int) ≤ before) = false := by simpa using h0
      clear g1 hr cu HU HE HE1
      go_wp2_with fail
      refine HSP.out.mono ?_
      rintro e w2 ⟨g2, ⟨l, x2, v, hr2, rfl, sr2, cu2⟩ | ⟨hr2, t, v, y, rfl, cu2⟩⟩
      · have hl : l ≠ [] ∧ (l.length : Int) ≤ left := by
          unfold rdSp at hr2
          obtain ⟨b, q1, q2⟩ := Option.bind_eq_some_iff.1 hr2
          split at q2
          · cases q2
          · have := rdSpans_len _ _ _ _ _ q2
            have h3 := ((rd_iff hf).1 (show rd f n x1 left = some (b.1, b.2) from q1)).2.1
            refine ⟨fun e => by subst e; simp at this; omega, by omega⟩
        have HR2 : Hid (rdRep f n before left x = some (((V : Int), l), x2)) := by rw [HR.out, hr2]; exact hid rfl
        have HG2 := hid (grown_trans HG.out g2)
        have HC2 := hid cu2
        have HL := hid hl
        have HS2 : Hid (SR w2 w.heap.size v l) := by
          obtain ⟨q1, q2⟩ := sr2
          refine hid ⟨q1, q2.imp id ?_⟩
          rintro ⟨g, cap, cur, e, hg, r⟩
          exact ⟨g, cap, cur, e, by omega, r⟩
        clear g2 hr2 cu2 sr2 HSP hl
        go_wp2_with fail
        go_ret3
        exact ⟨HG2.out, .inl ⟨_, l, x2, v, HR2.out, by omega, by omega, hV, HL.out.1, HL.out.2, rfl, HS2.out, HC2.out⟩⟩
      · have HR2 : Hid (rdRep f n before left x = none) := by rw [HR.out, hr2]; exact hid rfl
        have HG2 := hid (grown_trans HG.out g2)
        have HC2 := hid cu2
        clear g2 hr2 cu2 HSP
        go_wp2_with fail
        go_ret3
        exact ⟨HG2.out, .inr ⟨HR2.out, _, _, _, _, rfl, HC2.out⟩⟩
  · rw [rdI_nat] at hr
    have HR : Hid (rdRep f n before left x = none) := by unfold rdRep; rw [hr]; exact hid rfl
    have HG := hid g1
    have HC := hid cu
    clear g1 hr cu HU HE
    go_wp2_with fail
    go_ret3
    exact ⟨HG.out, .inr ⟨HR.out, _, _, _, _, rfl, HC.out⟩⟩
theorem GrpR.step {w w1 : World} {bm n : Nat} {D : DataW Value} {G : Int → Value} {L : Int → List (Int × Int)} {v : Value} {r : Int} {l : List (Int × Int)} (h : GrpR w bm n D G L) (ho : w.ownsRow 0 130 2 v l.length (spanCells l)) (hl : l ≠ [])
    (hD : w1.ownsMap Tryz.prog 3 rawR bm (n + 1) (D.put (kI r) (.held v))) (hg : w.grownBy w1 (some bm)) :
    GrpR w1 bm (n + 1) (D.put (kI r) (.held v)) (upd G r v) (upd L r l) := by
  refine ⟨hD, fun x => ?_, fun x => ?_, fun x => ?_⟩
  · by_cases e : x = r
    · subst e; rw [upd_same, atKey_put_same h.own.isMap (show WideAt.IsKeyLit (kI x) from trivial)]
    · rw [upd_other G v e, atKey_put_other (kI_ne e)]; exact h.at' x
  · by_cases e : x = r
    · subst e; rw [upd_same, has_put_same h.own.isMap (show WideAt.IsKeyLit (kI x) from trivial)]
      cases l with
      | nil => exact absurd rfl hl
      | cons _ _ => rfl
    · rw [upd_other L _ e, has_put_other (kI_ne e)]; exact h.has' x
  · by_cases e : x = r
    · subst e
      rw [upd_same, upd_same]
      exact ho.kept hg (row_map ho h.own)
    · rw [upd_other G v e, upd_other L _ e]
      exact (h.rows x).kept hg (row_map (h.rows x) h.own)
def lkS (g : List (Int × List (Int × Int))) (r : Int) : List (Int × Int) := g.foldl (fun L p => upd L p.1 p.2) (fun _ => []) r
theorem lkS_snoc (g : List (Int × List (Int × Int))) (p : Int × List (Int × Int)) : lkS (g ++ [p]) = upd (lkS g) p.1 p.2 := by
  funext r; unfold lkS; rw [List.foldl_append]; rfl
theorem replicasC (cb B bm : Nat) (a : Option Addr) (n c : Nat) (x : Int) (f : Nat → Int) (aT aS aL aE : Addr) (w0 w : World) (D0 : DataW Value) (G0 : Int → Value) (hn : n ≤ 1048576) (hf : Byt f) (hcur : Cur EX w cb a n c x) (hs : Seg w0 a n f) (hab : ∀ y, a = some y → y.block ≠ cb) (hE : Errs w0 B aT aS aL aE) (hBc : B ≤ cb)
    (hc0 : cb < w0.heap.size) (hbm : w0.heap.size ≤ bm) (hg0 : w0.grownBy w (some cb)) (hG : GrpR w bm 0 D0 G0 (fun _ => [])) (hGb : ∀ r g, (G0 r).ownBlock = some g → w0.heap.size ≤ g) :
    Calls Tryz.prog 47 #[.pointer (some ⟨cb, 0, none⟩), .map (some bm)] w fun e w' => w0.grownBy w' (some cb) ∧
      ((∃ (g : List (Int × List (Int × Int))) (x' nn : Nat) (D : DataW Value) (G : Int → Value), (rdI f n x 8).bind (fun a => rdReps f n a.1 (-1) 1000 a.2) = some (g, x') ∧ e = .returned .nilIface ∧ GrpR w' bm nn D G (lkS g) ∧ Cur EX w' cb a n c (x' : Int) ∧ ∀ r g, (G r).ownBlock = some g → w0.heap.size ≤ g) ∨
       ((rdI f n x 8).bind (fun a => rdReps f n a.1 (-1) 1000 a.2) = none ∧ ∃ (t : TypeId) (v : Value) (y : Int), e = .returned (.iface t v) ∧ Cur EX w' cb a n c y)) := by
  have hcl := hcur.lt
  have HU := hid (numberC cb B a n c x 8 f aT aS aL aE w hn hf hcur (hs.grown hg0 hab) hab (hE.grown hg0 hBc hc0) hBc (by omega) (by omega))
  have HE := hid hE
  have HS := hid hs
  have HG0 := hid hg0
  have HGR := hid hG
  have HGB := hid hGb
  have hbl := hG.own.lt
  clear hE hcur hs hg0 hG hGb
  go_enter Tryz.func47, Tryz.ntmps47
  go_wp2_with fail
  refine HU.out.mono ?_
  rintro e w1 ⟨g1, ⟨V, x1, hr, hV, rfl, cu⟩ | ⟨hr, t, v, y, rfl, cu⟩⟩
  · have HR : Hid ((rdI f n x 8).bind (fun a => rdReps f n a.1 (-1) 1000 a.2) = rdReps f n V (-1) 1000 x1) := by rw [hr]; exact hid rfl
    have HG := hid (grown_trans HG0.out g1)
    have HC := hid cu
    have HGR1 := hid (HGR.out.gr (row := some cb) g1 (fun e => by injection e with e; omega) (fun r g hg e => by injection e with e; have := HGB.out r g hg; omega))
    clear g1 hr cu HU HGR HG0
    go_wp2_with fail
    go_loopw [7, 8, 22] (fun lv bv iv wr => ∃ (k y : Nat) (g : List (Int × List (Int × Int))) (left before : Int) (D : DataW Value) (G : Int → Value), k ≤ V ∧ iv = .int .i64 (k : Int) ∧ lv = .int .i64 left ∧ bv = .int .i64 before ∧ -1 ≤ before ∧ before ≤ 7 ∧ 0 ≤ left ∧ left ≤ 1000 ∧
      Hid (GrpR wr bm k D G (lkS g)) ∧ Hid (∀ r g, (G r).ownBlock = some g → w0.heap.size ≤ g) ∧ Hid (Cur EX wr cb a n c (y : Int)) ∧ Hid (w0.grownBy wr (some cb)) ∧ bm < wr.heap.size ∧
      Hid (rdReps f n V (-1) 1000 x1 = (rdReps f n (V - k) before left y).bind fun d => some (g ++ d.1, d.2))) (fun _ _ iv _ => V - (intOf iv).toNat)
    case atStart => exact ⟨0, x1, [], 1000, -1, D0, G0, Nat.zero_le _, rfl, rfl, rfl, by omega, by omega, by omega, by omega, HGR1, HGB, HC, HG, HGR1.out.own.lt, hid (by cases h : rdReps f n (V - 0) (-1) 1000 x1 <;> simp_all)⟩
    case round =>
      obtain ⟨k, y, g, left, before, D, G, hk, rfl, rfl, rfl, hb0, hb1, hl0, hl1, hgp, hgb, hcu, hgr, hbw, hrd⟩ := hrel
      have zr := hgr.out.size
      by_cases hlt : k < V
      · obtain ⟨m, hm⟩ : ∃ m, V - k = m + 1 := ⟨V - k - 1, by omega⟩
        have HSP := hid (replicaC cb B a n c y before left f aT aS aL aE wr hn hf hcu.out (HS.out.grown hgr.out hab) hab (HE.out.grown hgr.out hBc hc0) hBc (by omega) (by omega))
        obtain ⟨c0, c1, c2⟩ := hcu.out
        go_wp2_with fail
        refine HSP.out.mono ?_
        rintro e w2 ⟨g2, ⟨r, l, x2, v, hr2, hr0, hr1, hr7, hl, hll, rfl, sr2, cu2⟩ | ⟨hr2, r, t, v, y2, rfl, cu2⟩⟩
        · have z2 := g2.size
          have HGR2 := hid (hgp.out.gr (row := some cb) g2 (fun e => by injection e with e; omega) (fun r g hg e => by injection e with e; have := hgb.out r g hg; omega))
          have HRD : Hid (rdReps f n V (-1) 1000 x1 = (rdReps f n (V - (k + 1)) r (left - (l.length : Int)) x2).bind fun d => some (g ++ [(r, l)] ++ d.1, d.2)) := by
            refine hid ?_
            rw [hrd.out, hm, rdReps_succ, hr2, show V - (k + 1) = m from by omega]
            simp only [Option.bind_some]
            cases rdReps f n m r (left - (l.length : Int)) x2 with
            | none => rfl
            | some b => simp
          have HC2 := hid cu2
          have HG2 := hid (grown_trans hgr.out g2)
          have hrow := row_zero sr2
          have HV : Hid (∀ q, v.ownBlock = some q → w0.heap.size ≤ q) := hid fun q hq => Nat.le_trans zr (World.ownsRow.lt sr2 q hq).1
          obtain ⟨yv, nv, cv, ev⟩ := row_form sr2
          have hnv : nv = l.length := by
            rcases sr2.2 with ⟨e, e0⟩ | ⟨g', cap, cur, e, _⟩
            · rw [e] at ev; injection ev with _ e1 _; omega
            · rw [e] at ev; injection ev with _ e1 _; omega
          subst hnv
          have hkey : keyOf Tryz.prog 3 (.int .i64 r) = some (kI r) := keyOf_int_mk Tryz.underlying3 (wfI (by omega) (by omega))
          have e3 : IntKind.i64.wrap (left - (l.length : Int)) = left - (l.length : Int) := wrapIn _ (by omega) (by omega)
          have HROW : Hid (w2.ownsRow 0 130 2 (.slice yv l.length cv) l.length (spanCells l)) := by rw [← ev]; exact hid hrow
          have HV2 : Hid (∀ q, (Value.slice yv l.length cv).ownBlock = some q → w0.heap.size ≤ q) := by rw [← ev]; exact HV
          subst ev
          have HM2 := hid HGR2.out.own
          clear g2 hr2 cu2 HSP c0 c1 c2 hgp hcu hgr hrd hm sr2 hrow HV
          go_wp2_with (at_mapUpdate; refine wpList_mapUpdate_own _ rfl _ _ _ 49 rfl 3 128 (int_keyed Tryz.underlying3) Tryz.underlying49 rawR bm _ _ rfl HM2.out (by unfold maxLen; omega) _ _ _ rfl rfl hkey (.held (.slice yv l.length cv)) [] rfl ?_; intro w3 hown3 hgr3; go_frame)
          go_roundw
          case rel =>
            have hcn : some cb ≠ some bm := fun e => by injection e with e; omega
            have hbk := hgr3.block cb HC2.out.lt hcn
            refine ⟨k + 1, x2, g ++ [(r, l)], left - (l.length : Int), r, D.put (kI r) (.held (.slice yv l.length cv)), upd G r (.slice yv l.length cv), hlt, by go_num, rfl, rfl, by omega, by omega, by omega, by omega, ?_, ?_, ?_, ?_, ?_, HRD⟩
            · rw [lkS_snoc]; exact hid (HGR2.out.step HROW.out hl hown3 hgr3)
            · refine hid fun q t hq => ?_
              by_cases e : q = r
              · subst e; rw [upd_same] at hq; exact HV2.out t hq
              · rw [upd_other _ _ e] at hq; exact hgb.out q t hq
            · exact hid (HC2.out.at' hbk)
            · exact hid (HG2.out.andThen hgr3 (fun j hj => .inl (by injection hj with hj; omega)))
            · have := hgr3.size; omega
          case measure => simp [intOf]; omega
        · have HRD : Hid ((rdI f n x 8).bind (fun a => rdReps f n a.1 (-1) 1000 a.2) = none) := by
            refine hid ?_
            rw [HR.out, hrd.out, hm, rdReps_succ, hr2]; rfl
          have HG2 := hid (grown_trans hgr.out g2)
          have HC2 := hid cu2
          clear g2 hr2 cu2 HSP c0 c1 c2 hgp hcu hgr hrd hm
          go_wp2_with fail
          go_ret
          have B2 : Below w2.heap.size w2 (w2.alloc (.cells #[.string { data := #[114, 101, 112, 108, 105, 99, 97] }, .int .i64 (y : Int), .iface t v] 82)) := (Below.refl _ _).alloc (Nat.le_refl _) _
          exact ⟨grown_below HG2.out B2, .inr ⟨HRD.out, _, _, _, rfl, HC2.out.below B2 HC2.out.lt⟩⟩
      · obtain rfl : k = V := by omega
        have HRD : Hid ((rdI f n x 8).bind (fun a => rdReps f n a.1 (-1) 1000 a.2) = some (g, y)) := by
          refine hid ?_
          rw [HR.out, hrd.out, Nat.sub_self]
          simp [rdReps]
        clear hrd
        go_wp2_with fail
        go_ret
        exact ⟨hgr.out, .inl ⟨g, y, _, D, G, HRD.out, rfl, hgp.out, hcu.out, hgb.out⟩⟩
  · have HR : Hid ((rdI f n x 8).bind (fun a => rdReps f n a.1 (-1) 1000 a.2) = none) := by rw [hr]; exact hid rfl
    have HG := hid (grown_trans HG0.out g1)
    have HC := hid cu
    clear g1 hr cu HU HE
    go_wp2_with fail
    go_ret
    exact ⟨HG.out, .inr ⟨HR.out, _, _, _, rfl, HC.out⟩⟩
end Go.Proofs.YtakmpmhjcngbbaaGreatDoor
