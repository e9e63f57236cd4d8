import Derived.Test.YtdenbicnckkdfaaGreatMg36
import Derived.Test.YtdenbicnckkdfaaGreatMg32
import Derived.Test.YtdenbicnckkdfaaGreatMg29
namespace Go.Proofs.YtdenbicnckkdfaaGreat
open Go.ChangeShapes Go.WideShapes Go.ChangeAt Go.RowKit
set_option linter.unusedVariables false
set_option linter.unusedSimpArgs false

theorem key_at {w : World} {B g m cap : Nat} {ts : List Ky} (h : w.ownsRow B 125 2 (.slice (some ⟨g, 0, none⟩) m cap) m (kRow ts)) (hl : ts.length = m) : ∀ i, i < m → ∃ d, ts[i]? = some d ∧ w.cell? ⟨g, i * 2, none⟩ = some (.string d.1) ∧ w.cell? ⟨g, i * 2 + 1, none⟩ = some (.int .i64 d.2) := by
  rcases h.2 with ⟨h0, _⟩ | ⟨g', cap', cur, hv, hbase, hb, h1, h2, h3, h4⟩
  · cases h0
  · cases hv
    intro i hi
    have hi' : i < ts.length := by omega
    have e0 : ts.toArray[i]! = ts[i] := by rw [getElem!_pos _ _ (by simpa using hi')]; simp
    refine ⟨ts[i], by simp [hi'], ?_, ?_⟩
    · have e1 : (cur.toList.take (m * 2))[i * 2]? = (kRow ts)[i * 2]? := by rw [h4]
      rw [List.getElem?_take_of_lt (by omega), kRow_get ts (i * 2) (by omega)] at e1
      rw [show i * 2 / 2 = i by omega, show i * 2 % 2 = 0 by omega, e0] at e1
      simp [World.cell?, hb, ← Array.getElem?_toList, e1, kCells]
    · have e1 : (cur.toList.take (m * 2))[i * 2 + 1]? = (kRow ts)[i * 2 + 1]? := by rw [h4]
      rw [List.getElem?_take_of_lt (by omega), kRow_get ts (i * 2 + 1) (by omega)] at e1
      rw [show (i * 2 + 1) / 2 = i by omega, show (i * 2 + 1) % 2 = 1 by omega, e0] at e1
      simp [World.cell?, hb, ← Array.getElem?_toList, e1, kCells]
theorem kseg {w : World} {B : Nat} {v : Value} {ts : List Ky} (h : w.ownsRow B 125 2 v ts.length (kRow ts)) : ∃ a cap, v = .slice a ts.length cap ∧ ts.length ≤ cap ∧ cap ≤ 9223372036854775807 ∧ (0 < ts.length → ∃ g, a = some ⟨g, 0, none⟩ ∧ B ≤ g ∧ g < w.heap.size ∧ ∀ i, i < ts.length → ∃ d, ts[i]? = some d ∧ w.cell? ⟨g, i * 2, none⟩ = some (.string d.1) ∧ w.cell? ⟨g, i * 2 + 1, none⟩ = some (.int .i64 d.2)) := by
  rcases h.2 with ⟨rfl, h0⟩ | ⟨g, cap, cur, rfl, hbase, hb, h1, h2, h3, h4⟩
  · exact ⟨none, 0, by rw [h0], by omega, by omega, fun hh => by omega⟩
  · exact ⟨_, cap, rfl, h1, by unfold maxLen at h2; omega, fun _ => ⟨g, rfl, hbase, (Array.getElem?_eq_some_iff.1 hb).1, key_at h rfl⟩⟩
theorem nx_kind {p : List ByteArray} {x : Lf} {y : Ky} (hx : LfOk1 x) (h : nx p x = some y) : (y.2 = 1 ∨ y.2 = 2) ∨ (y.2 = 3 ∧ p.length + 2 ≤ 8) := by
  rw [nx_some] at h
  obtain ⟨⟨_, hl⟩, e⟩ := h
  have e1 := congrArg Prod.snd e
  unfold onWay at e1
  dsimp only at e1
  by_cases h2 : p.length + 1 < x.p.length
  · rw [if_pos h2] at e1
    have := hx.1.2.1
    exact .inr ⟨e1.symm, by omega⟩
  · rw [if_neg h2] at e1
    rcases kd_or x.fl with k | k <;> rw [k] at e1
    · exact .inl (.inl e1.symm)
    · exact .inl (.inr e1.symm)
theorem flat_take_len {α : Type} (f : α → List Int) (ts : List α) (k : Nat) : ((ts.take k).flatMap f).length ≤ (ts.flatMap f).length := by
  conv => rhs; rw [← List.take_append_drop k ts, List.flatMap_append, List.length_append]
  omega
set_option maxRecDepth 100000 in
set_option maxHeartbeats 4000000 in
theorem appendToN {R F T : Nat → Int} {n : Nat} (l : List Lf) (w0 : World) (Bt c : Nat) (N : List Ky → Option (Nat × Nat)) (hT : Tre w0 Bt N (Mk l l.length) c) (hN : NkI l l.length N) (hc : c ≤ 1048576) (hlv : LvOk R F T n l l.length) (hbd : LvB l) : ∀ (f : Nat) (p : List ByteArray), p.length + f = 8 → 1 ≤ f → ∀ (bv : Value) (zs0 : List Int) (w : World), Below w0.heap.size w0 w → Own w w0.heap.size bv zs0 → zs0.length + (tB l f p).length ≤ 90000000 →
    Calls Tryz.prog 47 #[.agg #[.map (mF (N (wayOf p 3))), .map (mS (N (wayOf p 3)))], bv] w fun e w' => ∃ v, e = .returned v ∧ Own w' w0.heap.size v (zs0 ++ tB l f p) ∧ Gr w w' bv v
  | 0, _, _, h1, _, _, _, _, _, _ => by omega
  | f + 1, p, hpf, _, bv, zs0, w, hb, ho, hl => by
    obtain ⟨k1, k2⟩ := kS_ok p hlv l.length (Nat.le_refl _)
    obtain ⟨TB, hTB⟩ : ∃ TB, tB l (f + 1) p = TB := ⟨_, rfl⟩
    rw [hTB] at hl ⊢
    have HIH : Hid (∀ s, p.length + 2 ≤ 8 → ∀ (bv : Value) (zs0 : List Int) (w : World), Below w0.heap.size w0 w → Own w w0.heap.size bv zs0 → zs0.length + (tB l f (p ++ [s])).length ≤ 90000000 → Calls Tryz.prog 47 #[.agg #[.map (mF (N (wayOf p 3 ++ [(s, 3)]))), .map (mS (N (wayOf p 3 ++ [(s, 3)])))], bv] w fun e w' => ∃ v, e = .returned v ∧ Own w' w0.heap.size v (zs0 ++ tB l f (p ++ [s])) ∧ Gr w w' bv v) := hid (fun s hp2 bv zs0 w h1 h2 h3 => by
      rw [← way_snoc]
      exact appendToN l w0 Bt c N hT hN hc hlv hbd f (p ++ [s]) (by simp; omega) (by omega) bv zs0 w h1 h2 h3)
    obtain ⟨W, hW⟩ : ∃ W, w.alloc (.cells #[.map (mF (N (wayOf p 3))), .map (mS (N (wayOf p 3)))] 82) = W := ⟨_, rfl⟩
    have b0 : Below w.heap.size w W := by rw [← hW]; exact (Below.refl _ _).alloc (Nat.le_refl _) _
    have X0 : Bx2 W w.heap.size (.map (mF (N (wayOf p 3)))) (.map (mS (N (wayOf p 3)))) := by rw [← hW]; exact Bx2.made _ _ _ _
    have zW : W.heap.size = w.heap.size + 1 := by rw [← hW]; simp
    have hbW : Below w0.heap.size w0 W := hb.trans (b0.mono hb.size)
    have HSD := hid (sortedKeysC Bt c N (Mk l l.length) (wayOf p 3) W (hT.below hbW) hc)
    obtain ⟨m0, hm0⟩ : ∃ u, mF (N (wayOf p 3)) = u := ⟨_, rfl⟩
    obtain ⟨m1, hm1⟩ : ∃ u, mS (N (wayOf p 3)) = u := ⟨_, rfl⟩
    rw [hm0, hm1] at X0 HSD hW
    rw [hm0, hm1]
    have q0 := X0.c0
    have q1 := X0.c1
    have HX := hid X0
    have HB0 := hid b0
    have HBW := hid hbW
    have HO := hid (Own.kept ho b0 (fun k hk => (World.ownsRow.lt ho k hk).2))
    have HT := hid hT
    have HM0 := hid hm0
    have HOlt : Hid (∀ g, bv.ownBlock = some g → w0.heap.size ≤ g ∧ g < w.heap.size) := hid (fun g hg => World.ownsRow.lt ho g hg)
    have HTE := hid hTB
    have HK2 := hid k2
    clear X0 b0 hbW ho hm0 hm1 hTB k1 k2
    go_enter Tryz.func47, Tryz.ntmps47
    go_wp2_with fail
    try rw [hW]
    clear hW
    refine HSD.out.mono ?_
    rintro e w1 ⟨vd, ts, rfl, hts1, hts2, htl, hod, b1⟩
    have hkt := kS_tree (p := p) hlv hN hts1 hts2
    obtain ⟨da, dc, rfl, hdc1, hdc2, hdr⟩ := kseg hod
    have hlen : ts.length ≤ 1000 := by rw [hkt]; have := kS_len l p l.length; have := hbd.len; omega
    have HD : Hid (0 < ts.length → ∃ g, da = some ⟨g, 0, none⟩ ∧ W.heap.size ≤ g ∧ g < w1.heap.size ∧ ∀ i, i < ts.length → ∃ y ∈ ts, ts[i]? = some y ∧ w1.cell? ⟨g, i * 2, none⟩ = some (.string y.1) ∧ w1.cell? ⟨g, i * 2 + 1, none⟩ = some (.int .i64 y.2)) := hid (fun h0 => by
      obtain ⟨g, e1, e2, e3, e4⟩ := hdr h0
      refine ⟨g, e1, e2, e3, fun i hi => ?_⟩
      obtain ⟨d, f1, f2, f3⟩ := e4 i hi
      exact ⟨d, List.mem_of_getElem? f1, f1, f2, f3⟩)
    have HTS : Hid (TB = uvF 9 ts.length ++ ts.flatMap (kB l f p)) := hid (by rw [← HTE.out, tB_eq, ← hkt])
    have HKx : Hid (∀ y ∈ ts, y.1.size ≤ 40 ∧ ((y.2 = 1 ∨ y.2 = 2) ∨ (y.2 = 3 ∧ p.length + 2 ≤ 8))) := hid (fun y hy => by
      rw [hkt] at hy
      obtain ⟨j, hj, e⟩ := (HK2.out y).1 hy
      exact ⟨nx_name (hlv j hj).1 e, nx_kind (hlv j hj).1 e⟩)
    have HLK : Hid (∀ y ∈ ts, ∀ w', Below w0.heap.size w0 w' → (Instr.lookup 79 (.map m0) (.agg #[.string y.1, .int .i64 y.2]) false).run Tryz.prog w' = .ok (.agg #[.map (mF (N (wayOf p 3 ++ [y]))), .map (mS (N (wayOf p 3 ++ [y])))]) w') := hid (fun y hy w' hb' => by
      have hl := HKx.out y hy
      obtain ⟨kl, hkl⟩ := keyKey (s := y.1) (k := y.2) (by unfold maxLen; omega) (wfI (by omega) (by omega))
      have := (HT.out.below hb').look (wayOf p 3) y hkl
      rw [HM0.out] at this
      exact this)
    have X1 := HX.out.below b1 HX.out.lt
    have HX1 := hid X1
    have HO1 := hid (Own.kept HO.out b1 (fun k hk => by have := (HOlt.out k hk).2; omega))
    have HB1 := hid (HBW.out.trans (b1.mono HBW.out.size))
    have HB01 := hid (keepS HB0.out b1)
    have x0 : IntKind.u64.wrap ((ts.length : Nat) : Int) = (ts.length : Int) := wrapU _ (by omega) (by omega)
    have zz1 := b1.size
    have HSz : Hid (w0.heap.size ≤ w1.heap.size ∧ w.heap.size < w1.heap.size ∧ w0.heap.size ≤ w.heap.size) := hid ⟨HB1.out.size, by omega, hb.size⟩
    clear q0 q1 hod hts1 hts2 htl hdr hkt b1 HSD X1 HX HO HBW zz1 HK2 HTE
    go_wp2_with fail
    refine (appendUvG w0.heap.size ts.length bv zs0 w1 (by omega) HSz.out.1 (by omega) HO1.out).mono ?_
    rintro e w2 ⟨v2, rfl, o2, g2, z2⟩
    have HO2 := hid o2
    have HG2 := hid g2
    have HZ2 := hid z2
    clear o2 g2 z2 x0
    go_wp2_with fail

    go_loopw [1, 17] (fun b' i wr => ∃ (k : Nat), k ≤ ts.length ∧ i = .int .i64 k ∧ Hid (Own wr w0.heap.size b' (zs0 ++ (uvF 9 ts.length ++ (ts.take k).flatMap (kB l f p)))) ∧ Hid (Gr w1 wr bv b') ∧ Hid (w1.heap.size ≤ wr.heap.size)) (fun _ i _ => ts.length - (intOf i).toNat)
    case atStart => exact ⟨0, Nat.zero_le _, rfl, hid (by simpa using HO2.out), HG2, hid (Nat.le_of_lt HZ2.out)⟩
    case round =>
      clear HO2 HG2 HZ2
      obtain ⟨k, hk, rfl, HOk, HGk, HZk⟩ := hrel
      by_cases hlt : k < ts.length
      · obtain ⟨g, rfl, hg1, hg2, hgc⟩ := HD.out (by omega)
        obtain ⟨y, hym, hyk, hc1, hc2⟩ := hgc k hlt
        have hgne : some g ≠ bv.ownBlock := fun e => by have := (HOlt.out g e.symm).2; omega
        have hbne : some w.heap.size ≠ bv.ownBlock := fun e => by have := (HOlt.out _ e.symm).2; omega
        have c1 := HGk.out.g.cell hc1 hgne
        have c2 := HGk.out.g.cell hc2 hgne
        have n0 := HGk.out.g.cell HX1.out.c0 hbne
        have hyb := HKx.out y hym
        have HTK : Hid ((ts.take (k + 1)).flatMap (kB l f p) = (ts.take k).flatMap (kB l f p) ++ kB l f p y) := hid (by rw [List.take_add_one, hyk]; simp)
        have HZL : Hid ((zs0 ++ (uvF 9 ts.length ++ (ts.take k).flatMap (kB l f p))).length + (kB l f p y).length ≤ 90000000) := hid (by
          have h1 := flat_take_len (kB l f p) ts (k + 1)
          rw [HTK.out, List.length_append] at h1
          have h2 := hl
          rw [HTS.out] at h2
          simp only [List.length_append] at h2 ⊢
          omega)
        have HLKy : Hid (∀ w', Below w0.heap.size w0 w' → (Instr.lookup 79 (.map m0) (.agg #[.string y.1, .int .i64 y.2]) false).run Tryz.prog w' = .ok (.agg #[.map (mF (N (wayOf p 3 ++ [y]))), .map (mS (N (wayOf p 3 ++ [y])))]) w') := hid (fun w' h => HLK.out y hym w' h)
        have HMY : Hid ((y.2 = 1 ∨ y.2 = 2) → ∀ (bv : Value) (zs0 : List Int) (w : World), Below w0.heap.size w0 w → Own w w0.heap.size bv zs0 → zs0.length ≤ 100000000 → Calls Tryz.prog 78 #[.agg #[.map (mF (N (wayOf p 3 ++ [y]))), .map (mS (N (wayOf p 3 ++ [y])))], bv, .int .i64 y.2] w fun e w' => ∃ v, e = .returned v ∧ Own w' w0.heap.size v (zs0 ++ mB (dsK l p y l.length) y.2) ∧ Gr w w' bv v) := hid (fun hy bv zs0 w h1 h2 h3 => appendMarksC l p y w0 Bt c N HT.out hc hlv hbd hy bv zs0 w h1 h2 h3)
        obtain ⟨s, Y⟩ := y
        dsimp only at c1 c2 hyb HLKy HTK HMY HZL
        obtain ⟨W1, hW1⟩ : ∃ W1, wr.alloc (.cells #[.string s, .int .i64 Y] 125) = W1 := ⟨_, rfl⟩
        have D1 : Bx2 W1 wr.heap.size (.string s) (.int .i64 Y) := by rw [← hW1]; exact Bx2.made _ _ _ _
        have bW1 : Below wr.heap.size wr W1 := by rw [← hW1]; exact (Below.refl _ _).alloc (Nat.le_refl _) _
        have HGW : Hid (Gr w1 W1 bv u1) := by rw [← hW1]; exact hid (HGk.out.alloc _)
        have HOW : Hid (Own W1 w0.heap.size u1 (zs0 ++ (uvF 9 ts.length ++ (ts.take k).flatMap (kB l f p)))) := by rw [← hW1]; exact hid (World.ownsRow.alloc HOk.out _)
        have hdne : Hid (some wr.heap.size ≠ u1.ownBlock) := hid (fun e => by have := (World.ownsRow.lt HOk.out _ e.symm).2; omega)
        have q0 := D1.c0
        have q1 := D1.c1
        have HD1 := hid D1
        have HBN := hid hbne
        have HzW : Hid (w1.heap.size ≤ W1.heap.size) := hid (by have := bW1.size; have := HZk.out; omega)
        obtain ⟨zs, hzs⟩ : ∃ zs, zs0 ++ (uvF 9 ts.length ++ (ts.take k).flatMap (kB l f p)) = zs := ⟨_, rfl⟩
        have HFIN : Hid (zs0 ++ (uvF 9 ts.length ++ (ts.take (k + 1)).flatMap (kB l f p)) = zs ++ kB l f p (s, Y)) := hid (by rw [HTK.out, ← hzs]; simp)
        rw [hzs] at HOW HZL
        clear D1 bW1 hc1 hc2 hgc hym hyk hbne hgne HOk HGk HZk hzs HTK
        go_wp2_with fail
        try rw [hW1]
        clear hW1
        refine (appendTextG w0.heap.size u1 _ s W1 (by omega) (by have := HSz.out.1; have := HzW.out; omega) (by have := HZL.out; omega) HOW.out).mono ?_
        rintro e w3 ⟨v3, rfl, o3, g3, z3⟩
        have HO3 := hid o3
        have HG3 := hid g3
        have HZ3 : Hid (w1.heap.size ≤ w3.heap.size) := hid (by have := HzW.out; omega)
        have q13 := g3.g.cell HD1.out.c1 hdne.out
        clear o3 g3 z3 q0 q1 c1 c2 n0
        rcases hyb.2 with (rfl | rfl) | ⟨rfl, hp2⟩
        · have HKB : Hid (kB l f p (s, 1) = textInts s ++ ([1] ++ mB (dsK l p (s, 1) l.length) 1)) := hid (by unfold kB; rw [if_neg (show ¬ (1 : Int) = 3 by decide)])
          obtain ⟨v5, w5, happ, o5, g5⟩ := bytesApp w0.heap.size v3 _ [1] ⟨w3.heap.size, 0, none⟩ 1 1 (w3.alloc (.cells #[.int .u8 1] 5)) (World.ownsRow.alloc HO3.out _) rfl (fun i u hu => cell_one_new _ _ _ i u hu) (by have := HSz.out.1; have := HZ3.out; simp; omega) (by have h1 := HZL.out; rw [HKB.out] at h1; simp only [List.length_append] at h1 ⊢; simp at h1 ⊢; omega)
          have g35 : Gr W1 w5 u1 v5 := HG3.out.trans ((Gr.alloc (Gr.refl w3 v3) _).trans g5)
          have q05 := g35.g.cell HD1.out.c0 hdne.out
          have q15 := g35.g.cell HD1.out.c1 hdne.out
          have g15 := HGW.out.trans g35
          have n05 := g15.g.cell HX1.out.c0 HBN.out
          have hb5 : Below w0.heap.size w0 w5 := HB1.out.trans (g15.below HSz.out.1 (fun k hk => (HOlt.out k hk).1))
          have hz5 : w1.heap.size ≤ w5.heap.size := by have h1 := HZ3.out; have h2 := g5.g.size; simp at h2; omega
          have HO5 := hid o5
          have HG5 := hid g15
          have HB5 := hid hb5
          have HL5 : Hid ((zs ++ textInts s ++ [1]).length + (mB (dsK l p (s, 1) l.length) 1).length ≤ 90000000) := hid (by have h1 := HZL.out; rw [HKB.out] at h1; simp only [List.length_append] at h1 ⊢; omega)
          obtain ⟨a1, ha1⟩ : ∃ a1, mF (N (wayOf p 3 ++ [(s, 1)])) = a1 := ⟨_, rfl⟩
          obtain ⟨a2, ha2⟩ : ∃ a2, mS (N (wayOf p 3 ++ [(s, 1)])) = a2 := ⟨_, rfl⟩
          have HMA := hid (HMY.out (.inl rfl))
          rw [ha1, ha2] at HLKy HMA
          have hv5 : Hid (some w.heap.size ≠ v5.ownBlock ∧ some wr.heap.size ≠ v5.ownBlock) := hid ⟨by
            rcases g15.l with e | ⟨j, e, hj⟩
            · rw [e]; exact HBN.out
            · rw [e]; intro e2; injection e2 with e2; have := HSz.out.2.1; omega, by
            rcases g35.l with e | ⟨j, e, hj⟩
            · rw [e]; exact hdne.out
            · rw [e]; intro e2; injection e2 with e2; have := HD1.out.lt; omega⟩
          have HSS : Hid (∀ w', Below w0.heap.size w0 w' → w'.cell? ⟨w.heap.size, 0, none⟩ = some (.map m0) → w'.cell? ⟨wr.heap.size, 0, none⟩ = some (.string s) → w'.cell? ⟨wr.heap.size, 1, none⟩ = some (.int .i64 1) → (Below w0.heap.size w0 w' ∧ w'.cell? ⟨w.heap.size, 0, none⟩ = some (.map m0) ∧ w'.cell? ⟨wr.heap.size, 0, none⟩ = some (.string s) ∧ w'.cell? ⟨wr.heap.size, 1, none⟩ = some (.int .i64 1) ∧ (Instr.lookup 79 (.map m0) (.agg #[.string s, .int .i64 1]) false).run Tryz.prog w' = .ok (.agg #[.map a1, .map a2]) w')) := hid (fun w' h1 h2 h3 h4 => ⟨h1, h2, h3, h4, HLKy.out w' h1⟩)
          clear o5 g5 g35 g15 hb5 HMY HLKy ha1 ha2 HZL HO3 HG3
          go_wp2_with (at_builtin; refine wpList_app2 rfl _ _ _ _ rfl happ (by rfl) (by rfl) rfl ?_; clear happ)
          refine wp_region_held_drew (S := fun w' => Below w0.heap.size w0 w' ∧ w'.cell? ⟨w.heap.size, 0, none⟩ = some (.map m0) ∧ w'.cell? ⟨wr.heap.size, 0, none⟩ = some (.string s) ∧ w'.cell? ⟨wr.heap.size, 1, none⟩ = some (.int .i64 1) ∧ (Instr.lookup 79 (.map m0) (.agg #[.string s, .int .i64 1]) false).run Tryz.prog w' = .ok (.agg #[.map a1, .map a2]) w') (by kernel_rfl) (HSS.out _ HB5.out.drew n05 q05 q15) (fun hHeld => ?_)
          refine take1 (i := 0) (d := some 40) (v := ?_) (by kernel_rfl) (by kernel_rfl) (by kernel_rfl) (by kernel_rfl) (fun _ _ _ h => h) ?_ hHeld ?_
          rotate_left
          · (intro o ho; simp only [List.getElem?_toArray, List.getElem?_cons_succ, List.getElem?_cons_zero, Option.some.injEq] at ho; subst ho; refine Or.inl ⟨by rfl, ?_⟩; intro w hSw; (try dsimp only at hSw); go_simp; try with_reducible rfl)
          try simp only [Act.put, List.setIfInBounds_toArray, List.set_cons_zero, List.set_cons_succ]
          refine take1 (i := 1) (d := some 41) (v := ?_) (by kernel_rfl) (by kernel_rfl) (by kernel_rfl) (by kernel_rfl) (fun _ _ _ h => h) ?_ hHeld ?_
          rotate_left
          · (intro o ho; simp only [List.getElem?_toArray, List.getElem?_cons_succ, List.getElem?_cons_zero, Option.some.injEq] at ho; subst ho; refine Or.inl ⟨by rfl, ?_⟩; intro w hSw; (try dsimp only at hSw); go_simp; try with_reducible rfl)
          try simp only [Act.put, List.setIfInBounds_toArray, List.set_cons_zero, List.set_cons_succ]
          refine take1 (i := 2) (d := some 42) (v := ?_) (by kernel_rfl) (by kernel_rfl) (by kernel_rfl) (by kernel_rfl) (fun _ _ _ h => h) ?_ hHeld ?_
          rotate_left
          · (intro o ho; simp only [List.getElem?_toArray, List.getElem?_cons_succ, List.getElem?_cons_zero, Option.some.injEq] at ho; subst ho; refine Or.inl ⟨by rfl, ?_⟩; intro w hSw; (try dsimp only at hSw); go_simp; try with_reducible rfl)
          try simp only [Act.put, List.setIfInBounds_toArray, List.set_cons_zero, List.set_cons_succ]
          refine take1 (i := 3) (d := some 43) (v := ?_) (by kernel_rfl) (by kernel_rfl) (by kernel_rfl) (by kernel_rfl) (fun _ _ _ h => h) ?_ hHeld ?_
          rotate_left
          · (intro o ho; simp only [List.getElem?_toArray, List.getElem?_cons_succ, List.getElem?_cons_zero, Option.some.injEq] at ho; subst ho; refine Or.inl ⟨by rfl, ?_⟩; intro w hSw; (try dsimp only at hSw); go_simp; try with_reducible rfl)
          try simp only [Act.put, List.setIfInBounds_toArray, List.set_cons_zero, List.set_cons_succ]
          refine take1 (i := 4) (d := some 44) (v := ?_) (by kernel_rfl) (by kernel_rfl) (by kernel_rfl) (by kernel_rfl) (fun _ _ _ h => h) ?_ hHeld ?_
          rotate_left
          · (intro o ho; simp only [List.getElem?_toArray, List.getElem?_cons_succ, List.getElem?_cons_zero, Option.some.injEq] at ho; subst ho; refine Or.inl ⟨by rfl, ?_⟩; intro w hSw; (try dsimp only at hSw); go_simp; try with_reducible rfl)
          try simp only [Act.put, List.setIfInBounds_toArray, List.set_cons_zero, List.set_cons_succ]
          refine take1 (i := 5) (d := some 45) (v := ?_) (by kernel_rfl) (by kernel_rfl) (by kernel_rfl) (by kernel_rfl) (fun _ _ _ h => h) ?_ hHeld ?_
          rotate_left
          · (intro o ho; simp only [List.getElem?_toArray, List.getElem?_cons_succ, List.getElem?_cons_zero, Option.some.injEq] at ho; subst ho; refine Or.inl ⟨by rfl, ?_⟩; intro w hSw; (try dsimp only at hSw); go_simp; try with_reducible rfl)
          try simp only [Act.put, List.setIfInBounds_toArray, List.set_cons_zero, List.set_cons_succ]
          refine take1 (i := 6) (d := some 46) (v := ?_) (by kernel_rfl) (by kernel_rfl) (by kernel_rfl) (by kernel_rfl) (fun _ _ _ h => h) ?_ hHeld ?_
          rotate_left
          · (intro o ho; simp only [List.getElem?_toArray, List.getElem?_cons_succ, List.getElem?_cons_zero, Option.some.injEq] at ho; subst ho; refine Or.inl ⟨by rfl, ?_⟩; intro w hSw; (try dsimp only at hSw); go_simp; try with_reducible rfl)
          try simp only [Act.put, List.setIfInBounds_toArray, List.set_cons_zero, List.set_cons_succ]
          refine call1 (i := 7) (d := some 47) (by kernel_rfl) (by kernel_rfl) ?_
          intro o ho hod K hK; simp only [List.getElem?_toArray, List.getElem?_cons_succ, List.getElem?_cons_zero, Option.some.injEq] at ho; subst ho
          go_simp
          refine (HMA.out v5 _ _ hHeld.1 (World.ownsRow.drew HO5.out) (by have := HL5.out; omega)).mono ?_
          rintro e w6 ⟨v6, rfl, o6, g6⟩
          have g56 : Gr w5 w6 v5 v6 := (show Gr w5 w5.drew v5 v5 from ⟨⟨rfl, rfl, rfl, Nat.le_refl _, fun _ _ _ => rfl⟩, .inl rfl⟩).trans g6
          have hb6 : Below w0.heap.size w0 w6 := hHeld.1.trans (g6.below hHeld.1.size (fun k hk => (World.ownsRow.lt HO5.out k hk).1))
          refine hK.out _ _ (HSS.out _ hb6 (g56.g.cell n05 hv5.out.1) (g56.g.cell q05 hv5.out.2) (g56.g.cell q15 hv5.out.2)) (fun hHeld => ?_)
          clear hK K
          try simp only [Act.put, List.setIfInBounds_toArray, List.set_cons_zero, List.set_cons_succ]
          refine take1 (i := 8) (d := some 1) (v := ?_) (by kernel_rfl) (by kernel_rfl) (by kernel_rfl) (by kernel_rfl) (fun _ _ _ h => h) ?_ hHeld ?_
          rotate_left
          · (intro o ho; simp only [List.getElem?_toArray, List.getElem?_cons_succ, List.getElem?_cons_zero, Option.some.injEq] at ho; subst ho; refine Or.inl ⟨by rfl, ?_⟩; intro w hSw; (try dsimp only at hSw); go_simp; try with_reducible rfl)
          try simp only [Act.put, List.setIfInBounds_toArray, List.set_cons_zero, List.set_cons_succ]
          refine wpAnyH_done (by kernel_rfl) ?_ _
          have HO6 : Hid (Own w6 w0.heap.size v6 (zs0 ++ (uvF 9 ts.length ++ (ts.take (k + 1)).flatMap (kB l f p)))) := hid (by rw [HFIN.out, HKB.out]; simpa using o6)
          have HG6 := hid (HG5.out.trans g56)
          have HZ6 : Hid (w1.heap.size ≤ w6.heap.size) := hid (by have := g56.g.size; omega)
          clear o6 g6 g56 hb6 hHeld q05 q15 n05 hz5 q13 HMA
          go_wp2_with fail
          go_roundw
          case rel => exact ⟨k + 1, hlt, by go_num, HO6, HG6, HZ6⟩
          case measure => simp [intOf]; omega
        · have HKB : Hid (kB l f p (s, 2) = textInts s ++ ([2] ++ mB (dsK l p (s, 2) l.length) 2)) := hid (by unfold kB; rw [if_neg (show ¬ (2 : Int) = 3 by decide)])
          obtain ⟨v5, w5, happ, o5, g5⟩ := bytesApp w0.heap.size v3 _ [2] ⟨w3.heap.size, 0, none⟩ 1 1 (w3.alloc (.cells #[.int .u8 2] 5)) (World.ownsRow.alloc HO3.out _) rfl (fun i u hu => cell_one_new _ _ _ i u hu) (by have := HSz.out.1; have := HZ3.out; simp; omega) (by have h1 := HZL.out; rw [HKB.out] at h1; simp only [List.length_append] at h1 ⊢; simp at h1 ⊢; omega)
          have g35 : Gr W1 w5 u1 v5 := HG3.out.trans ((Gr.alloc (Gr.refl w3 v3) _).trans g5)
          have q05 := g35.g.cell HD1.out.c0 hdne.out
          have q15 := g35.g.cell HD1.out.c1 hdne.out
          have g15 := HGW.out.trans g35
          have n05 := g15.g.cell HX1.out.c0 HBN.out
          have hb5 : Below w0.heap.size w0 w5 := HB1.out.trans (g15.below HSz.out.1 (fun k hk => (HOlt.out k hk).1))
          have hz5 : w1.heap.size ≤ w5.heap.size := by have h1 := HZ3.out; have h2 := g5.g.size; simp at h2; omega
          have HO5 := hid o5
          have HG5 := hid g15
          have HB5 := hid hb5
          have HL5 : Hid ((zs ++ textInts s ++ [2]).length + (mB (dsK l p (s, 2) l.length) 2).length ≤ 90000000) := hid (by have h1 := HZL.out; rw [HKB.out] at h1; simp only [List.length_append] at h1 ⊢; omega)
          obtain ⟨a1, ha1⟩ : ∃ a1, mF (N (wayOf p 3 ++ [(s, 2)])) = a1 := ⟨_, rfl⟩
          obtain ⟨a2, ha2⟩ : ∃ a2, mS (N (wayOf p 3 ++ [(s, 2)])) = a2 := ⟨_, rfl⟩
          have HMA := hid (HMY.out (.inr rfl))
          rw [ha1, ha2] at HLKy HMA
          have hv5 : Hid (some w.heap.size ≠ v5.ownBlock ∧ some wr.heap.size ≠ v5.ownBlock) := hid ⟨by
            rcases g15.l with e | ⟨j, e, hj⟩
            · rw [e]; exact HBN.out
            · rw [e]; intro e2; injection e2 with e2; have := HSz.out.2.1; omega, by
            rcases g35.l with e | ⟨j, e, hj⟩
            · rw [e]; exact hdne.out
            · rw [e]; intro e2; injection e2 with e2; have := HD1.out.lt; omega⟩
          have HSS : Hid (∀ w', Below w0.heap.size w0 w' → w'.cell? ⟨w.heap.size, 0, none⟩ = some (.map m0) → w'.cell? ⟨wr.heap.size, 0, none⟩ = some (.string s) → w'.cell? ⟨wr.heap.size, 1, none⟩ = some (.int .i64 2) → (Below w0.heap.size w0 w' ∧ w'.cell? ⟨w.heap.size, 0, none⟩ = some (.map m0) ∧ w'.cell? ⟨wr.heap.size, 0, none⟩ = some (.string s) ∧ w'.cell? ⟨wr.heap.size, 1, none⟩ = some (.int .i64 2) ∧ (Instr.lookup 79 (.map m0) (.agg #[.string s, .int .i64 2]) false).run Tryz.prog w' = .ok (.agg #[.map a1, .map a2]) w')) := hid (fun w' h1 h2 h3 h4 => ⟨h1, h2, h3, h4, HLKy.out w' h1⟩)
          clear o5 g5 g35 g15 hb5 HMY HLKy ha1 ha2 HZL HO3 HG3
          go_wp2_with (at_builtin; refine wpList_app2 rfl _ _ _ _ rfl happ (by rfl) (by rfl) rfl ?_; clear happ)
          refine wp_region_held_drew (S := fun w' => Below w0.heap.size w0 w' ∧ w'.cell? ⟨w.heap.size, 0, none⟩ = some (.map m0) ∧ w'.cell? ⟨wr.heap.size, 0, none⟩ = some (.string s) ∧ w'.cell? ⟨wr.heap.size, 1, none⟩ = some (.int .i64 2) ∧ (Instr.lookup 79 (.map m0) (.agg #[.string s, .int .i64 2]) false).run Tryz.prog w' = .ok (.agg #[.map a1, .map a2]) w') (by kernel_rfl) (HSS.out _ HB5.out.drew n05 q05 q15) (fun hHeld => ?_)
          refine take1 (i := 0) (d := some 40) (v := ?_) (by kernel_rfl) (by kernel_rfl) (by kernel_rfl) (by kernel_rfl) (fun _ _ _ h => h) ?_ hHeld ?_
          rotate_left
          · (intro o ho; simp only [List.getElem?_toArray, List.getElem?_cons_succ, List.getElem?_cons_zero, Option.some.injEq] at ho; subst ho; refine Or.inl ⟨by rfl, ?_⟩; intro w hSw; (try dsimp only at hSw); go_simp; try with_reducible rfl)
          try simp only [Act.put, List.setIfInBounds_toArray, List.set_cons_zero, List.set_cons_succ]
          refine take1 (i := 1) (d := some 41) (v := ?_) (by kernel_rfl) (by kernel_rfl) (by kernel_rfl) (by kernel_rfl) (fun _ _ _ h => h) ?_ hHeld ?_
          rotate_left
          · (intro o ho; simp only [List.getElem?_toArray, List.getElem?_cons_succ, List.getElem?_cons_zero, Option.some.injEq] at ho; subst ho; refine Or.inl ⟨by rfl, ?_⟩; intro w hSw; (try dsimp only at hSw); go_simp; try with_reducible rfl)
          try simp only [Act.put, List.setIfInBounds_toArray, List.set_cons_zero, List.set_cons_succ]
          refine take1 (i := 2) (d := some 42) (v := ?_) (by kernel_rfl) (by kernel_rfl) (by kernel_rfl) (by kernel_rfl) (fun _ _ _ h => h) ?_ hHeld ?_
          rotate_left
          · (intro o ho; simp only [List.getElem?_toArray, List.getElem?_cons_succ, List.getElem?_cons_zero, Option.some.injEq] at ho; subst ho; refine Or.inl ⟨by rfl, ?_⟩; intro w hSw; (try dsimp only at hSw); go_simp; try with_reducible rfl)
          try simp only [Act.put, List.setIfInBounds_toArray, List.set_cons_zero, List.set_cons_succ]
          refine take1 (i := 3) (d := some 43) (v := ?_) (by kernel_rfl) (by kernel_rfl) (by kernel_rfl) (by kernel_rfl) (fun _ _ _ h => h) ?_ hHeld ?_
          rotate_left
          · (intro o ho; simp only [List.getElem?_toArray, List.getElem?_cons_succ, List.getElem?_cons_zero, Option.some.injEq] at ho; subst ho; refine Or.inl ⟨by rfl, ?_⟩; intro w hSw; (try dsimp only at hSw); go_simp; try with_reducible rfl)
          try simp only [Act.put, List.setIfInBounds_toArray, List.set_cons_zero, List.set_cons_succ]
          refine take1 (i := 4) (d := some 44) (v := ?_) (by kernel_rfl) (by kernel_rfl) (by kernel_rfl) (by kernel_rfl) (fun _ _ _ h => h) ?_ hHeld ?_
          rotate_left
          · (intro o ho; simp only [List.getElem?_toArray, List.getElem?_cons_succ, List.getElem?_cons_zero, Option.some.injEq] at ho; subst ho; refine Or.inl ⟨by rfl, ?_⟩; intro w hSw; (try dsimp only at hSw); go_simp; try with_reducible rfl)
          try simp only [Act.put, List.setIfInBounds_toArray, List.set_cons_zero, List.set_cons_succ]
          refine take1 (i := 5) (d := some 45) (v := ?_) (by kernel_rfl) (by kernel_rfl) (by kernel_rfl) (by kernel_rfl) (fun _ _ _ h => h) ?_ hHeld ?_
          rotate_left
          · (intro o ho; simp only [List.getElem?_toArray, List.getElem?_cons_succ, List.getElem?_cons_zero, Option.some.injEq] at ho; subst ho; refine Or.inl ⟨by rfl, ?_⟩; intro w hSw; (try dsimp only at hSw); go_simp; try with_reducible rfl)
          try simp only [Act.put, List.setIfInBounds_toArray, List.set_cons_zero, List.set_cons_succ]
          refine take1 (i := 6) (d := some 46) (v := ?_) (by kernel_rfl) (by kernel_rfl) (by kernel_rfl) (by kernel_rfl) (fun _ _ _ h => h) ?_ hHeld ?_
          rotate_left
          · (intro o ho; simp only [List.getElem?_toArray, List.getElem?_cons_succ, List.getElem?_cons_zero, Option.some.injEq] at ho; subst ho; refine Or.inl ⟨by rfl, ?_⟩; intro w hSw; (try dsimp only at hSw); go_simp; try with_reducible rfl)
          try simp only [Act.put, List.setIfInBounds_toArray, List.set_cons_zero, List.set_cons_succ]
          refine call1 (i := 7) (d := some 47) (by kernel_rfl) (by kernel_rfl) ?_
          intro o ho hod K hK; simp only [List.getElem?_toArray, List.getElem?_cons_succ, List.getElem?_cons_zero, Option.some.injEq] at ho; subst ho
          go_simp
          refine (HMA.out v5 _ _ hHeld.1 (World.ownsRow.drew HO5.out) (by have := HL5.out; omega)).mono ?_
          rintro e w6 ⟨v6, rfl, o6, g6⟩
          have g56 : Gr w5 w6 v5 v6 := (show Gr w5 w5.drew v5 v5 from ⟨⟨rfl, rfl, rfl, Nat.le_refl _, fun _ _ _ => rfl⟩, .inl rfl⟩).trans g6
          have hb6 : Below w0.heap.size w0 w6 := hHeld.1.trans (g6.below hHeld.1.size (fun k hk => (World.ownsRow.lt HO5.out k hk).1))
          refine hK.out _ _ (HSS.out _ hb6 (g56.g.cell n05 hv5.out.1) (g56.g.cell q05 hv5.out.2) (g56.g.cell q15 hv5.out.2)) (fun hHeld => ?_)
          clear hK K
          try simp only [Act.put, List.setIfInBounds_toArray, List.set_cons_zero, List.set_cons_succ]
          refine take1 (i := 8) (d := some 1) (v := ?_) (by kernel_rfl) (by kernel_rfl) (by kernel_rfl) (by kernel_rfl) (fun _ _ _ h => h) ?_ hHeld ?_
          rotate_left
          · (intro o ho; simp only [List.getElem?_toArray, List.getElem?_cons_succ, List.getElem?_cons_zero, Option.some.injEq] at ho; subst ho; refine Or.inl ⟨by rfl, ?_⟩; intro w hSw; (try dsimp only at hSw); go_simp; try with_reducible rfl)
          try simp only [Act.put, List.setIfInBounds_toArray, List.set_cons_zero, List.set_cons_succ]
          refine wpAnyH_done (by kernel_rfl) ?_ _
          have HO6 : Hid (Own w6 w0.heap.size v6 (zs0 ++ (uvF 9 ts.length ++ (ts.take (k + 1)).flatMap (kB l f p)))) := hid (by rw [HFIN.out, HKB.out]; simpa using o6)
          have HG6 := hid (HG5.out.trans g56)
          have HZ6 : Hid (w1.heap.size ≤ w6.heap.size) := hid (by have := g56.g.size; omega)
          clear o6 g6 g56 hb6 hHeld q05 q15 n05 hz5 q13 HMA
          go_wp2_with fail
          go_roundw
          case rel => exact ⟨k + 1, hlt, by go_num, HO6, HG6, HZ6⟩
          case measure => simp [intOf]; omega
        · have HKB : Hid (kB l f p (s, 3) = textInts s ++ ([3] ++ tB l f (p ++ [s]))) := hid (by unfold kB; rw [if_pos rfl])
          obtain ⟨v5, w5, happ, o5, g5⟩ := bytesApp w0.heap.size v3 _ [3] ⟨w3.heap.size, 0, none⟩ 1 1 (w3.alloc (.cells #[.int .u8 3] 5)) (World.ownsRow.alloc HO3.out _) rfl (fun i u hu => cell_one_new _ _ _ i u hu) (by have := HSz.out.1; have := HZ3.out; simp; omega) (by have h1 := HZL.out; rw [HKB.out] at h1; simp only [List.length_append] at h1 ⊢; simp at h1 ⊢; omega)
          have g35 : Gr W1 w5 u1 v5 := HG3.out.trans ((Gr.alloc (Gr.refl w3 v3) _).trans g5)
          have q05 := g35.g.cell HD1.out.c0 hdne.out
          have q15 := g35.g.cell HD1.out.c1 hdne.out
          have g15 := HGW.out.trans g35
          have n05 := g15.g.cell HX1.out.c0 HBN.out
          have hb5 : Below w0.heap.size w0 w5 := HB1.out.trans (g15.below HSz.out.1 (fun k hk => (HOlt.out k hk).1))
          have hz5 : w1.heap.size ≤ w5.heap.size := by have h1 := HZ3.out; have h2 := g5.g.size; simp at h2; omega
          have HO5 := hid o5
          have HG5 := hid g15
          have HB5 := hid hb5
          have HL5 : Hid ((zs ++ textInts s ++ [3]).length + (tB l f (p ++ [s])).length ≤ 90000000) := hid (by have h1 := HZL.out; rw [HKB.out] at h1; simp only [List.length_append] at h1 ⊢; omega)
          have hlk := HLKy.out w5 hb5
          obtain ⟨a1, ha1⟩ : ∃ a1, mF (N (wayOf p 3 ++ [(s, 3)])) = a1 := ⟨_, rfl⟩
          obtain ⟨a2, ha2⟩ : ∃ a2, mS (N (wayOf p 3 ++ [(s, 3)])) = a2 := ⟨_, rfl⟩
          have HCA := hid (HIH.out s hp2 v5 _ w5 hb5 o5 HL5.out)
          rw [ha1, ha2] at hlk HCA
          clear o5 g5 g35 g15 hb5 HMY HLKy ha1 ha2 HZL HO3 HG3
          go_wp2_with (at_builtin; refine wpList_app2 rfl _ _ _ _ rfl happ (by rfl) (by rfl) rfl ?_; clear happ)
          refine HCA.out.mono ?_
          rintro e w6 ⟨v6, rfl, o6, g6⟩
          have HO6 : Hid (Own w6 w0.heap.size v6 (zs0 ++ (uvF 9 ts.length ++ (ts.take (k + 1)).flatMap (kB l f p)))) := hid (by rw [HFIN.out, HKB.out]; simpa using o6)
          have HG6 := hid (HG5.out.trans g6)
          have HZ6 : Hid (w1.heap.size ≤ w6.heap.size) := hid (by have := g6.g.size; omega)
          clear o6 g6 hlk q05 q15 n05 HCA hz5 q13
          go_wp2_with fail
          go_roundw
          case rel => exact ⟨k + 1, hlt, by go_num, HO6, HG6, HZ6⟩
          case measure => simp [intOf]; omega
      · obtain rfl : k = ts.length := by omega
        have HF : Hid (zs0 ++ (uvF 9 ts.length ++ (ts.take ts.length).flatMap (kB l f p)) = zs0 ++ TB) := hid (by rw [List.take_length, HTS.out])
        go_wp2_with fail
        go_ret
        refine ⟨_, rfl, by rw [← HF.out]; exact HOk.out, ?_⟩
        exact (Gr.of_below (b := bv) HB01.out).trans HGk.out

end Go.Proofs.YtdenbicnckkdfaaGreat

namespace Go.Proofs.YtdenbicnckkdfaaGreat
open Go.ChangeShapes Go.WideShapes Go.ChangeAt Go.RowKit
set_option linter.unusedVariables false
set_option linter.unusedSimpArgs false

theorem appO (B B' : Nat) (v x : Value) (zs ns : List Int) (w : World) (ho : Own w B v zs) (hx : Own w B' x ns) (hxn : x.ownBlock ≠ none) (hB : B ≤ w.heap.size) (hl : zs.length + ns.length ≤ 1000000000) :
    ∃ v' w', (Builtin.append_ #[39, 39] 39 #[v, x]).run Tryz.prog w = .ok v' w' ∧ Own w' B v' (zs ++ ns) ∧ Gr w w' v v' ∧ (v.ownBlock ≠ none → v'.ownBlock ≠ none) := by
  have hx' : w.ownsRow B' 5 1 x ns.length (ns.map (Value.int .u8)) := hx
  rcases hx'.2 with ⟨rfl, _⟩ | ⟨g, cap, cur, rfl, _⟩
  · exact absurd rfl hxn
  obtain ⟨v', w', h1, h2, h3⟩ := bytesApp B v zs ns ⟨g, 0, none⟩ ns.length cap w ho rfl (World.ownsRow.cells hx' rfl) hB (by omega)
  refine ⟨v', w', h1, h2, h3, fun hv => ?_⟩
  rcases h3.l with e | ⟨k, e, _⟩
  · rw [e]; exact hv
  · rw [e]; simp
theorem own_ne {w : World} {B : Nat} {v : Value} {zs : List Int} (h : Own w B v zs) (hz : 0 < zs.length) : v.ownBlock ≠ none := by
  obtain ⟨h1, h2⟩ := h
  rcases h2 with ⟨_, h2⟩ | ⟨g, cap, cur, rfl, _⟩
  · omega
  · simp [Value.ownBlock]
theorem tB_pos (l : List Lf) (f : Nat) (p : List ByteArray) : 0 < (tB l (f + 1) p).length := by
  rw [tB_eq, List.length_append]; have := (uvF_len 9 (kS l p l.length).length).2; omega
theorem kS_pre (l : List Lf) (p : List ByteArray) (k : Nat) : ∀ j, k ≤ j → kS l p k <+: kS l p j
  | 0, h => by rw [show k = 0 by omega]; exact List.prefix_refl _
  | j + 1, h => by
    by_cases e : k = j + 1
    · rw [e]; exact List.prefix_refl _
    · have ih := kS_pre l p k j (by omega)
      cases h1 : nx p (gL l j) with
      | none => rw [kS_none h1]; exact ih
      | some y =>
        rw [kS_some h1]
        split
        · exact ih
        · exact ih.trans (List.prefix_append _ _)
theorem flat_pre {α : Type} (f : α → List Int) {a b : List α} (h : a <+: b) : (a.flatMap f).length ≤ (b.flatMap f).length := by
  obtain ⟨c, rfl⟩ := h
  rw [List.flatMap_append, List.length_append]; omega

structure Bd (w wr : World) (body : Value) (zs : List Int) : Prop where
  b : Below w.heap.size w wr
  o : Own wr w.heap.size body zs
  n : body.ownBlock ≠ none
theorem Bd.keep {w wr w1 : World} {body : Value} {zs : List Int} (h : Bd w wr body zs) (hb : Below wr.heap.size wr w1) : Bd w w1 body zs :=
  ⟨h.b.trans (hb.mono h.b.size), Own.kept h.o hb (fun k hk => (World.ownsRow.lt h.o k hk).2), h.n⟩
theorem Bd.app {w wr w1 : World} {body v : Value} {zs ns : List Int} (h : Bd w wr body zs) (hb : Below wr.heap.size wr w1) (ho : Own w1 wr.heap.size v ns) (hz : 0 < ns.length) (hl : zs.length + ns.length ≤ 1000000000) :
    ∃ v' w2, (Builtin.append_ #[39, 39] 39 #[body, v]).run Tryz.prog w1 = .ok v' w2 ∧ Bd w w2 v' (zs ++ ns) := by
  have h1 := h.keep hb
  obtain ⟨v', w2, e, o2, g2, n2⟩ := appO w.heap.size wr.heap.size body v zs ns w1 h1.o ho (own_ne ho hz) h1.b.size hl
  exact ⟨v', w2, e, h1.b.trans (g2.below h1.b.size (fun k hk => (World.ownsRow.lt h1.o k hk).1)), o2, n2 h.n⟩
theorem Bd.byte {w wr : World} {body : Value} {zs : List Int} (h : Bd w wr body zs) (Y : Int) (hl : zs.length ≤ 1000000000) :
    ∃ v' w2, (Builtin.append_ #[39, 39] 39 #[body, .slice (some ⟨wr.heap.size, 0, none⟩) 1 1]).run Tryz.prog (wr.alloc (.cells #[.int .u8 Y] 5)) = .ok v' w2 ∧ Bd w w2 v' (zs ++ [Y]) := by
  have b1 : Below wr.heap.size wr (wr.alloc (.cells #[.int .u8 Y] 5)) := (Below.refl _ _).alloc (Nat.le_refl _) _
  have h1 := h.keep b1
  obtain ⟨v', w2, e, o2, g2⟩ := bytesApp w.heap.size body zs [Y] ⟨wr.heap.size, 0, none⟩ 1 1 (wr.alloc (.cells #[.int .u8 Y] 5)) h1.o rfl (fun i u hu => cell_one_new _ _ _ i u hu) h1.b.size (by omega)
  refine ⟨v', w2, e, h1.b.trans (g2.below h1.b.size (fun k hk => (World.ownsRow.lt h1.o k hk).1)), o2, ?_⟩
  rcases g2.l with e1 | ⟨k, e1, _⟩
  · rw [e1]; exact h.n
  · rw [e1]; simp

theorem grp_all {R F T : Nat → Int} {n : Nat} {l : List Lf} {p : List ByteArray} {i e J g : Nat} {y : Ky} (hlv : LvOk R F T n l l.length) (hI : Iv l p i e) (hij : i ≤ J) (hfr : y ∉ kS l p J) (h1 : 1 ≤ g) (hge : J + g ≤ e) (hy : onWay (gL l J).p (kd (gL l J).fl) p.length = y) (hsame : ∀ t, t < g → onWay (gL l (J + t)).p (kd (gL l (J + t)).fl) p.length = y) (hdiff : J + g < e → onWay (gL l (J + g)).p (kd (gL l (J + g)).fl) p.length ≠ y) :
    kS l p (J + g) = kS l p J ++ [y] ∧ dsK l p y l.length = ((List.range g).map fun t => gL l (J + t)) ∧ (∀ s, y = (s, 3) → Iv l (p ++ [s]) J (J + g)) ∧ ∀ z, nx p (gL l (J + g)) = some z → J + g < e → z ∉ kS l p (J + g) := by
  have hel := hI.2.2
  have hg : ∀ t, t < g → nx p (gL l (J + t)) = some y := fun t ht => by
    rw [nx_some]
    exact ⟨nx_ne.1 ((hI.1 (J + t) (by omega)).2 (by omega)), hsame t ht⟩
  have hs : J + g < e → nx p (gL l (J + g)) ≠ some y := fun hlt he => by
    rw [nx_some] at he
    exact hdiff hlt he.2
  have ho := grp_only hlv hI hij hfr h1 hge hg hs
  refine ⟨?_, grp_list ho (by omega), fun s es => by subst es; exact grp_map ho (by omega), fun z hz hlt => grp_next hlv hI hfr h1 hge hg hs hlt hz⟩
  have := grp_keys hfr hg (g - 1) (by omega)
  rwa [show J + (g - 1 + 1) = J + g by omega] at this
theorem Bd.made (w : World) : Bd w (w.alloc (.cells #[] 5)) (.slice (some ⟨w.heap.size, 0, none⟩) 0 0) [] := by
  refine ⟨(Below.refl _ _).alloc (Nat.le_refl _) _, ?_, by simp [Value.ownBlock]⟩
  have := World.ownsRow_lit (base := w.heap.size) (e := 5) (size := 1) w #[] 0 (by omega) (by unfold maxLen; omega) rfl
  simpa [Own] using this
theorem Bd.front {w wr w1 : World} {body u : Value} {zs ns : List Int} (h : Bd w wr body zs) (hb : Below wr.heap.size wr w1) (ho : Own w1 wr.heap.size u ns) (hl : ns.length + zs.length ≤ 1000000000) :
    ∃ v' w2, (Builtin.append_ #[39, 39] 39 #[u, body]).run Tryz.prog w1 = .ok v' w2 ∧ Own w2 w.heap.size v' (ns ++ zs) ∧ Below w.heap.size w w2 := by
  have h1 := h.keep hb
  have ho' := Own.weak ho h.b.size
  obtain ⟨v', w2, e, o2, g2, n2⟩ := appO w.heap.size w.heap.size u body ns zs w1 ho' h1.o h.n h1.b.size hl
  exact ⟨v', w2, e, o2, h1.b.trans (g2.below h1.b.size (fun k hk => (World.ownsRow.lt ho' k hk).1))⟩

structure Lp (l : List Lf) (p : List ByteArray) (w : World) (J M : Nat) (a : Option Addr) (c : Nat) : Prop where
  c1 : M ≤ c
  c2 : c ≤ 9223372036854775807
  a1 : 0 < M → ∃ b o, a = some ⟨b, o, none⟩ ∧ LAt w b o l J M
  fr : 0 < M → ∀ y, nx p (gL l J) = some y → y ∉ kS l p J
def sLen : Value → Nat
  | .slice _ n _ => n
  | _ => 0
set_option maxRecDepth 100000 in
set_option maxHeartbeats 4000000 in
theorem l4TreeStep {R F T : Nat → Int} {n : Nat} (l : List Lf) (hlv : LvOk R F T n l l.length) (hbd : LvB l) (f : Nat) (p : List ByteArray) (hpf : p.length + (f + 1) = 8)
    (ih : ∀ (s : ByteArray), 1 ≤ f → ∀ (i m c : Nat) (a : Option Addr) (w : World), m ≤ c → c ≤ 9223372036854775807 → Iv l (p ++ [s]) i (i + m) → (0 < m → ∃ b off, a = some ⟨b, off, none⟩ ∧ LAt w b off l i m) → (tB l f (p ++ [s])).length ≤ 90000000 →
      Calls Tryz.prog 64 #[.slice a m c, .int .i64 ((p ++ [s]).length : Int)] w fun e w' => ∃ v, e = .returned v ∧ Own w' w.heap.size v (tB l f (p ++ [s])) ∧ Below w.heap.size w w')
    (i m c : Nat) (a : Option Addr) (w : World) (hmc : m ≤ c) (hcm : c ≤ 9223372036854775807) (hI : Iv l p i (i + m)) (hL : 0 < m → ∃ b off, a = some ⟨b, off, none⟩ ∧ LAt w b off l i m) (hl : (tB l (f + 1) p).length ≤ 90000000) :
    Calls Tryz.prog 64 #[.slice a m c, .int .i64 (p.length : Int)] w fun e w' => ∃ v, e = .returned v ∧ Own w' w.heap.size v (tB l (f + 1) p) ∧ Below w.heap.size w w' := by
    obtain ⟨TB, hTB⟩ : ∃ TB, tB l (f + 1) p = TB := ⟨_, rfl⟩
    rw [hTB] at hl ⊢
    have HTE : Hid (uvF 9 (kS l p l.length).length ++ (kS l p l.length).flatMap (kB l f p) = TB) := hid (by rw [← hTB, tB_eq])
    have HIv := hid hI
    have HL := hid hL
    obtain ⟨d, hd⟩ : ∃ d, p.length = d := ⟨_, rfl⟩
    have HD := hid hd
    have HIH : Hid (∀ (s : ByteArray), 1 ≤ f → ∀ (i m c : Nat) (a : Option Addr) (w : World), m ≤ c → c ≤ 9223372036854775807 → Iv l (p ++ [s]) i (i + m) → (0 < m → ∃ b off, a = some ⟨b, off, none⟩ ∧ LAt w b off l i m) → (tB l f (p ++ [s])).length ≤ 90000000 →
      Calls Tryz.prog 64 #[.slice a m c, .int .i64 ((d : Int) + 1)] w fun e w' => ∃ v, e = .returned v ∧ Own w' w.heap.size v (tB l f (p ++ [s])) ∧ Below w.heap.size w w') := hid (fun s hf i m c a w h1 h2 h3 h4 h5 => by
        have := ih s hf i m c a w h1 h2 h3 h4 h5
        rw [show (((p ++ [s]).length : Nat) : Int) = (d : Int) + 1 by simp; omega] at this
        exact this)
    rw [hd] at hpf ⊢
    have hl0 : m ≤ 1000 := by have := hI.2; have := hbd.len; omega
    clear hTB hI hL hd ih
    go_enter Tryz.func64, Tryz.ntmps64
    go_wp2_with fail
    go_loopw [0, 5, 6] (fun lv cv bd wr => ∃ (J M c' : Nat) (a' : Option Addr), Hid (i ≤ J ∧ J + M = i + m) ∧ lv = .slice a' M c' ∧ cv = .int .i64 ((kS l p J).length : Nat) ∧ Hid (Lp l p w J M a' c') ∧ Hid (Bd w wr bd ((kS l p J).flatMap (kB l f p)))) (fun lv _ _ _ => sLen lv)
    case atStart =>
      have e := HIv.out.start i (Nat.le_refl _)
      refine ⟨i, m, c, a, hid ⟨Nat.le_refl _, rfl⟩, rfl, by rw [e]; rfl, hid ⟨hmc, hcm, HL.out, fun _ y _ => by rw [e]; simp⟩, hid ?_⟩
      rw [e]
      exact Bd.made w
    case round =>
      obtain ⟨J, M, c', a', HJ, rfl, rfl, HLp, HBd⟩ := hrel
      clear HL
      by_cases hlt : 0 < M
      · obtain ⟨b, o, rfl, hLA⟩ := HLp.out.a1 hlt
        have HLA := hid hLA
        have hM : M ≤ 1000 := by have := HJ.out; omega
        have HEL : Hid (i + m ≤ l.length ∧ l.length ≤ 1000) := hid ⟨HIv.out.2.2, hbd.len⟩
        have HP : Hid (∀ t, t < M → d < (gL l (J + t)).p.length ∧ (gL l (J + t)).p.length ≤ 8) := hid (fun t ht => by
          have hJ := HJ.out; have he := HEL.out
          have h1 := nx_ne.1 ((HIv.out.1 (J + t) (by omega)).2 (by omega))
          rw [HD.out] at h1
          exact ⟨h1.2, (hlv (J + t) (by omega)).1.1.2.1⟩)
        have hp0 := HP.out 0 hlt
        have HLf : Hid (LfOk1 (gL l J)) := hid ((hlv J (by have := HJ.out; have := HEL.out; omega)).1)
        obtain ⟨qa, qc, h0, hs, h1, h2, h3, h4⟩ := hLA.2 0 hlt
        simp only [Nat.add_zero, Nat.zero_mul] at h0 hs h1 h2 h3 h4 hp0
        rcases hs with hs | ⟨kb, ko, rfl, hkb, hkc⟩
        · omega
        have h5 := hkc d hp0.1
        have hb0 := hLA.1
        have HFR := hid (HLp.out.fr hlt)
        have HNX : Hid (nx p (gL l J) = some (onWay (gL l J).p (kd (gL l J).fl) d)) := hid (by
          have hJ := HJ.out; have he := HEL.out
          have h1 := nx_ne.1 ((HIv.out.1 J (by omega)).2 (by omega))
          rw [nx_some]; exact ⟨h1, by rw [HD.out]⟩)
        have hss : (gS (gL l J).p d).size ≤ 40 := (HLf.out.1.2.2 d hp0.1).2
        have HGC := hid (l4GroupC l b o J M c' d wr (by omega) (by omega) (by omega) (fun t ht => by have := HP.out t ht; omega) (hLA.below HBd.out.b))
        have HYE : Hid (onWay (gL l J).p (kd (gL l J).fl) d = (gS (gL l J).p d, kAt d (gL l J).p.length (gL l J).fl)) := hid rfl
        have HY3 : Hid (kAt d (gL l J).p.length (gL l J).fl = 1 ∨ kAt d (gL l J).p.length (gL l J).fl = 2 ∨ (kAt d (gL l J).p.length (gL l J).fl = 3 ∧ 1 ≤ f)) := hid (by
          unfold kAt
          split
          · exact .inr (.inr ⟨rfl, by omega⟩)
          · rcases kd_or (gL l J).fl with h | h
            · exact .inl h
            · exact .inr (.inl h))
        have HKS : Hid ((kS l p J).length ≤ 1000 ∧ ((kS l p J).flatMap (kB l f p)).length ≤ 90000000) := hid ⟨by have := kS_len l p J; have hJ := HJ.out; have he := HEL.out; omega, by
          have h1 := flat_pre (kB l f p) (kS_pre l p J l.length (by have hJ := HJ.out; have he := HEL.out; omega))
          have h2 : TB.length ≤ 90000000 := hl
          rw [← HTE.out, List.length_append] at h2
          omega⟩
        have HGR : Hid (∀ g, 1 ≤ g → g ≤ M → (∀ t, t < g → onWay (gL l (J + t)).p (kd (gL l (J + t)).fl) d = onWay (gL l J).p (kd (gL l J).fl) d) → (g < M → onWay (gL l (J + g)).p (kd (gL l (J + g)).fl) d ≠ onWay (gL l J).p (kd (gL l J).fl) d) →
            kS l p (J + g) = kS l p J ++ [onWay (gL l J).p (kd (gL l J).fl) d] ∧ dsK l p (onWay (gL l J).p (kd (gL l J).fl) d) l.length = ((List.range g).map fun t => gL l (J + t)) ∧ (∀ s, onWay (gL l J).p (kd (gL l J).fl) d = (s, 3) → Iv l (p ++ [s]) J (J + g)) ∧ (g < M → ∀ z, nx p (gL l (J + g)) = some z → z ∉ kS l p (J + g)) ∧ ((kS l p (J + g)).flatMap (kB l f p)).length ≤ 90000000) := hid (fun g g1 g2 g3 g4 => by
          have hJ := HJ.out; have he := HEL.out
          have hdd := HD.out
          obtain ⟨r1, r2, r3, r4⟩ := grp_all hlv HIv.out hJ.1 (HFR.out _ HNX.out) g1 (by omega) (by rw [hdd]) (by rw [hdd]; exact g3) (by rw [hdd]; exact fun h => g4 (by omega))
          refine ⟨r1, r2, r3, fun h z hz => r4 z hz (by omega), ?_⟩
          have h1 := flat_pre (kB l f p) (kS_pre l p (J + g) l.length (by omega))
          have h2 : TB.length ≤ 90000000 := hl
          rw [← HTE.out, List.length_append] at h2
          omega)
        have HLX : Hid (∀ t, t < M → ∃ r q : Nat, ∃ v, r ≤ 7 ∧ q ≤ 1000000000 ∧ v.size ≤ 200 ∧ (∀ Y : Int, lfB Y (gL l (J + t)) = uvF 9 r ++ (uvF 9 q ++ if Y = 1 then textInts v else [])) ∧ ∀ w', Below w.heap.size w w' → w'.cell? ⟨b, o + t * 5 + 2, none⟩ = some (.int .i64 (r : Int)) ∧ w'.cell? ⟨b, o + t * 5 + 3, none⟩ = some (.int .i64 (q : Int)) ∧ w'.cell? ⟨b, o + t * 5 + 4, none⟩ = some (.string v)) := hid (fun t ht => by
          have hJ := HJ.out; have he := HEL.out
          have hr := hbd.rep (J + t) (by omega)
          have hq := hbd.seq (J + t) (by omega)
          have hv := hbd.val (J + t) (by omega)
          refine ⟨(gL l (J + t)).r.toNat, (gL l (J + t)).q.toNat, (gL l (J + t)).v, by omega, by omega, hv, fun Y => rfl, fun w' hb' => ?_⟩
          obtain ⟨_, _, _, _, _, k2, k3, k4⟩ := (HLA.out.below hb').2 t ht
          refine ⟨?_, ?_, k4⟩
          · rw [k2]; congr 2; omega
          · rw [k3]; congr 2; omega)
        obtain ⟨x, hx⟩ : ∃ x, gL l J = x := ⟨_, rfl⟩
        rw [hx] at h0 h1 h2 h3 h4 h5 hp0 hss HYE HY3 HNX HGR HGC
        clear hx
        obtain ⟨xp, fl, xr, xq, xv⟩ := x
        dsimp only at h0 h1 h2 h3 h4 h5 hp0 hss HYE HY3 HNX HGR HGC
        rw [HYE.out] at HNX HGR HGC
        obtain ⟨s, hs'⟩ : ∃ s, gS xp d = s := ⟨_, rfl⟩
        obtain ⟨pn, hpn⟩ : ∃ pn, xp.length = pn := ⟨_, rfl⟩
        obtain ⟨Y, hY⟩ : ∃ Y, kAt d pn fl = Y := ⟨_, rfl⟩
        rw [hs', hpn, hY] at HNX HGR HGC
        rw [hpn, hY] at HY3
        rw [hs'] at hss h5
        rw [hpn] at h0 hp0
        have HYY := hid hY
        clear hs' hpn hY HYE hkc hLA
        have HC : Hid (∀ w', Below w.heap.size w w' → w'.cell? ⟨b, o, none⟩ = some (.slice (some ⟨kb, ko, none⟩) pn qc) ∧ w'.cell? ⟨b, o + 1, none⟩ = some (.bool fl) ∧ w'.cell? ⟨b, o + 2, none⟩ = some (.int .i64 xr) ∧ w'.cell? ⟨b, o + 3, none⟩ = some (.int .i64 xq) ∧ w'.cell? ⟨b, o + 4, none⟩ = some (.string xv) ∧ w'.cell? ⟨kb, ko + d, none⟩ = some (.string s)) := hid (fun w' hB => ⟨(hB.cell (p := ⟨b, _, none⟩) hb0).trans h0, (hB.cell (p := ⟨b, _, none⟩) hb0).trans h1, (hB.cell (p := ⟨b, _, none⟩) hb0).trans h2, (hB.cell (p := ⟨b, _, none⟩) hb0).trans h3, (hB.cell (p := ⟨b, _, none⟩) hb0).trans h4, (hB.cell (p := ⟨kb, _, none⟩) hkb).trans h5⟩)
        clear h0 h1 h2 h3 h4 h5 hb0 hkb
        obtain ⟨cn, hcn⟩ : ∃ cn, (kS l p J).length = cn := ⟨_, rfl⟩
        obtain ⟨zs, hzs⟩ : ∃ zs, (kS l p J).flatMap (kB l f p) = zs := ⟨_, rfl⟩
        rw [hcn, hzs] at HKS
        rw [hzs] at HBd
        have HCN := hid hcn
        have HZS := hid hzs
        have hcn2 := HKS.out.1
        simp only [hcn]
        have hc1 : M ≤ c' := HLp.out.c1
        have hc2 : c' ≤ 9223372036854775807 := HLp.out.c2
        clear hcn hzs HLp
        go_wp2_with fail
        refine HGC.out.mono ?_
        rintro e w1 ⟨⟨g, rfl, g1, g2, g3, g4⟩, b1⟩
        have HG := hid (HGR.out g g1 g2 g3 g4)
        have HBd1 := hid (HBd.out.keep b1)
        obtain ⟨q0, q1, q2, q3, q4, q5⟩ := HC.out w1 HBd1.out.b
        clear HGR g3 g4 HBd HGC b1
        go_wp2_with fail
        refine (l4KindC (some ⟨kb, ko, none⟩) pn qc fl xr xq xv d w1 (by omega) (by omega)).mono ?_
        rintro e w2 ⟨rfl, b2⟩
        rw [HYY.out]
        have HBd2 := hid (HBd1.out.keep b2)
        clear q0 q1 q2 q3 q4 q5 HBd1 b2
        obtain ⟨q0, q1, q2, q3, q4, q5⟩ := HC.out w2 HBd2.out.b
        go_wp2_with fail
        refine (specText s w2 (by omega)).mono ?_
        rintro e w3 ⟨v3, rfl, o3, b3, z3⟩
        have hts := textInts_len s
        obtain ⟨v4, w4, happ, bd4⟩ := HBd2.out.app b3 o3 (by unfold textInts; have := (uvF_len 9 s.size).2; rw [List.length_append]; omega) (by have := HKS.out.2; omega)
        have HBd4 := hid bd4
        clear q0 q1 q2 q3 q4 q5 HBd2 b3 o3 z3 bd4
        have HL4 : Hid ((zs ++ textInts s).length ≤ 90000050) := hid (by have := HKS.out.2; rw [List.length_append]; omega)
        rcases HY3.out with rfl | rfl | ⟨rfl, hf⟩
        · have HKB : Hid (kB l f p (s, 1) = textInts s ++ ([1] ++ (uvF 9 g ++ (List.range g).flatMap fun t => lfB 1 (gL l (J + t))))) := hid (by unfold kB; rw [if_neg (show ¬ (1 : Int) = 3 by decide), HG.out.2.1]; unfold mB; simp [List.flatMap_map])
          obtain ⟨v5, w5, happ5, bd5⟩ := HBd4.out.byte 1 (by have := HL4.out; omega)
          have HBd5 := hid bd5
          have HL5 : Hid ((zs ++ textInts s ++ [1]).length ≤ 90000051) := hid (by have := HL4.out; rw [List.length_append]; simp; simpa using this)
          clear bd5 HBd4 hts
          go_wp2_with (at_builtin; first | (refine wpList_app2 rfl _ _ _ _ rfl happ (by rfl) (by rfl) rfl ?_; clear happ) | (refine wpList_app2 rfl _ _ _ _ rfl happ5 (by rfl) (by rfl) rfl ?_; clear happ5))
          refine (specPut1 g w5 (by omega)).mono ?_
          rintro e w6 ⟨v6, rfl, o6, b6, z6⟩
          have hug := uvF_len 9 g
          obtain ⟨v7, w7, happ7, bd7⟩ := HBd5.out.app b6 o6 hug.2 (by have := HL5.out; omega)
          have HBd7 := hid bd7
          obtain ⟨ys, hys⟩ : ∃ ys, zs ++ textInts s ++ [1] ++ uvF 9 g = ys := ⟨_, rfl⟩
          have HYS := hid hys
          have HL7 : Hid (ys.length ≤ 90000070) := hid (by rw [← hys, List.length_append]; have := HL5.out; omega)
          rw [hys] at HBd7
          clear hys bd7 o6 b6 z6 hug HBd5
          go_wp2_with (at_builtin; refine wpList_app2 rfl _ _ _ _ rfl happ7 (by rfl) (by rfl) rfl ?_; clear happ7)
          go_loopw [6, 9] (fun bd iv wr => ∃ t : Nat, t ≤ g ∧ iv = .int .i64 t ∧ Hid (Bd w wr bd (ys ++ (List.range t).flatMap fun t => lfB 1 (gL l (J + t))))) (fun _ iv _ => g - (intOf iv).toNat)
          case atStart => exact ⟨0, Nat.zero_le _, rfl, hid (by simpa using HBd7.out)⟩
          case round =>
            obtain ⟨t, ht, rfl, HBt⟩ := hrel
            clear HBd7
            by_cases htg : t < g
            · obtain ⟨r, q, v, hr, hq, hv, hlf, hkk⟩ := HLX.out t (by omega)
              have HK := hid hkk
              obtain ⟨k2, k3, k4⟩ := hkk _ HBt.out.b
              clear hkk
              have HTK : Hid (ys ++ ((List.range (t + 1)).flatMap fun t => lfB 1 (gL l (J + t))) = ys ++ ((List.range t).flatMap fun t => lfB 1 (gL l (J + t))) ++ (uvF 9 r ++ (uvF 9 q ++ textInts v))) := hid (by rw [List.range_succ, List.flatMap_append]; simp [hlf])
              have HLt : Hid ((ys ++ (List.range t).flatMap fun t => lfB 1 (gL l (J + t))).length ≤ 90000070 + 230 * 1000) := hid (by
                have h2 := flat_len (fun t => lfB 1 (gL l (J + t))) (fun _ => 1) 230 (List.range t) (fun z hz => by
                  have hz' := List.mem_range.1 hz
                  obtain ⟨r, q, v, hr, hq, hv, hlf, _⟩ := HLX.out z (by omega)
                  have a1 := (uvF_len 9 r).1
                  have a2 := (uvF_len 9 q).1
                  have a3 := textInts_len v
                  rw [hlf]
                  simp only [List.length_append]
                  split
                  · omega
                  · simp; omega)
                have h3 : ∀ ls : List Nat, (ls.map fun _ => 1).sum = ls.length := fun ls => by
                  induction ls with
                  | nil => rfl
                  | cons a r ih => simp only [List.map_cons, List.sum_cons, ih, List.length_cons]; omega
                rw [h3, List.length_range] at h2
                have := HL7.out
                rw [List.length_append]
                omega)
              obtain ⟨us, hus⟩ : ∃ us, ys ++ ((List.range t).flatMap fun t => lfB 1 (gL l (J + t))) = us := ⟨_, rfl⟩
              rw [hus] at HBt HTK HLt
              clear hus hlf
              have hur := uvF_len 9 r
              have huq := uvF_len 9 q
              go_wp2_with fail
              refine (specPut1 r _ (by omega)).mono ?_
              rintro e y1 ⟨u1, rfl, oo1, bb1, zz1⟩
              obtain ⟨u2, y2, ha2, bu2⟩ := HBt.out.app bb1 oo1 hur.2 (by have := HLt.out; omega)
              have HB2 := hid bu2
              clear bu2 bb1 oo1 zz1 HBt k2 k3 k4
              obtain ⟨k2, k3, k4⟩ := HK.out _ HB2.out.b
              go_wp2_with (at_builtin; refine wpList_app2 rfl _ _ _ _ rfl ha2 (by rfl) (by rfl) rfl ?_; clear ha2)
              refine (specPut1 q _ (by omega)).mono ?_
              rintro e y3 ⟨u3, rfl, oo3, bb3, zz3⟩
              obtain ⟨u4, y4, ha4, bu4⟩ := HB2.out.app bb3 oo3 huq.2 (by have := HLt.out; rw [List.length_append]; omega)
              have HB4 := hid bu4
              clear bu4 bb3 oo3 zz3 HB2 k2 k3 k4
              obtain ⟨k2, k3, k4⟩ := HK.out _ HB4.out.b
              go_wp2_with (at_builtin; refine wpList_app2 rfl _ _ _ _ rfl ha4 (by rfl) (by rfl) rfl ?_; clear ha4)
              refine (specText v _ (by omega)).mono ?_
              rintro e y5 ⟨u5, rfl, oo5, bb5, zz5⟩
              have htv := textInts_len v
              obtain ⟨u6, y6, ha6, bu6⟩ := HB4.out.app bb5 oo5 (by unfold textInts; have := (uvF_len 9 v.size).2; rw [List.length_append]; omega) (by have := HLt.out; rw [List.length_append, List.length_append]; omega)
              have HB6 := hid bu6
              clear bu6 bb5 oo5 zz5 HB4 k2 k3 k4
              go_wp2_with (at_builtin; refine wpList_app2 rfl _ _ _ _ rfl ha6 (by rfl) (by rfl) rfl ?_; clear ha6)
              go_roundw
              case rel => exact ⟨t + 1, htg, by go_num, hid (by rw [HTK.out]; simpa using HB6.out)⟩
              case measure => simp [intOf]; omega
            · obtain rfl : g = t := by omega
              have HFZ : Hid (Bd w wr u6 ((kS l p (J + g)).flatMap (kB l f p))) := hid (by rw [HG.out.1, List.flatMap_append, HZS.out]; simp only [List.flatMap_cons, List.flatMap_nil, List.append_nil]; rw [HKB.out]; simpa [← HYS.out] using HBt.out)
              have HCN2 : Hid ((kS l p (J + g)).length = cn + 1) := hid (by rw [HG.out.1, List.length_append, HCN.out]; rfl)
              have HFR2 : Hid (0 < M - g → ∀ y, nx p (gL l (J + g)) = some y → y ∉ kS l p (J + g)) := hid (fun h => HG.out.2.2.2.1 (by omega))
              clear HBt HZS HCN HFR
              by_cases hgc : g < c'
              · go_wp2_with fail
                go_roundw
                case rel => exact ⟨J + g, M - g, c' - g, some ⟨b, o + g * 5, none⟩, hid (by have := HJ.out; omega), by first | rfl | rw [if_neg (by omega)], by rw [HCN2.out]; go_num, hid ⟨by omega, by omega, fun h => ⟨b, _, rfl, HLA.out.drop g2⟩, HFR2.out⟩, HFZ⟩
                case measure => simp [sLen]; omega
              · go_wp2_with fail
                go_roundw
                case rel => exact ⟨J + g, M - g, c' - g, some ⟨b, o, none⟩, hid (by have := HJ.out; omega), by first | rfl | rw [if_pos (by omega)], by rw [HCN2.out]; go_num, hid ⟨by omega, by omega, fun h => by omega, HFR2.out⟩, HFZ⟩
                case measure => simp [sLen]; omega

        · have HKB : Hid (kB l f p (s, 2) = textInts s ++ ([2] ++ (uvF 9 g ++ (List.range g).flatMap fun t => lfB 2 (gL l (J + t))))) := hid (by unfold kB; rw [if_neg (show ¬ (2 : Int) = 3 by decide), HG.out.2.1]; unfold mB; simp [List.flatMap_map])
          obtain ⟨v5, w5, happ5, bd5⟩ := HBd4.out.byte 2 (by have := HL4.out; omega)
          have HBd5 := hid bd5
          have HL5 : Hid ((zs ++ textInts s ++ [2]).length ≤ 90000051) := hid (by have := HL4.out; rw [List.length_append]; simp; simpa using this)
          clear bd5 HBd4 hts
          go_wp2_with (at_builtin; first | (refine wpList_app2 rfl _ _ _ _ rfl happ (by rfl) (by rfl) rfl ?_; clear happ) | (refine wpList_app2 rfl _ _ _ _ rfl happ5 (by rfl) (by rfl) rfl ?_; clear happ5))
          refine (specPut1 g w5 (by omega)).mono ?_
          rintro e w6 ⟨v6, rfl, o6, b6, z6⟩
          have hug := uvF_len 9 g
          obtain ⟨v7, w7, happ7, bd7⟩ := HBd5.out.app b6 o6 hug.2 (by have := HL5.out; omega)
          have HBd7 := hid bd7
          obtain ⟨ys, hys⟩ : ∃ ys, zs ++ textInts s ++ [2] ++ uvF 9 g = ys := ⟨_, rfl⟩
          have HYS := hid hys
          have HL7 : Hid (ys.length ≤ 90000070) := hid (by rw [← hys, List.length_append]; have := HL5.out; omega)
          rw [hys] at HBd7
          clear hys bd7 o6 b6 z6 hug HBd5
          go_wp2_with (at_builtin; refine wpList_app2 rfl _ _ _ _ rfl happ7 (by rfl) (by rfl) rfl ?_; clear happ7)
          go_loopw [6, 9] (fun bd iv wr => ∃ t : Nat, t ≤ g ∧ iv = .int .i64 t ∧ Hid (Bd w wr bd (ys ++ (List.range t).flatMap fun t => lfB 2 (gL l (J + t))))) (fun _ iv _ => g - (intOf iv).toNat)
          case atStart => exact ⟨0, Nat.zero_le _, rfl, hid (by simpa using HBd7.out)⟩
          case round =>
            obtain ⟨t, ht, rfl, HBt⟩ := hrel
            clear HBd7
            by_cases htg : t < g
            · obtain ⟨r, q, v, hr, hq, hv, hlf, hkk⟩ := HLX.out t (by omega)
              have HK := hid hkk
              obtain ⟨k2, k3, k4⟩ := hkk _ HBt.out.b
              clear hkk
              have HTK : Hid (ys ++ ((List.range (t + 1)).flatMap fun t => lfB 2 (gL l (J + t))) = ys ++ ((List.range t).flatMap fun t => lfB 2 (gL l (J + t))) ++ (uvF 9 r ++ uvF 9 q)) := hid (by rw [List.range_succ, List.flatMap_append]; simp [hlf])
              have HLt : Hid ((ys ++ (List.range t).flatMap fun t => lfB 2 (gL l (J + t))).length ≤ 90000070 + 230 * 1000) := hid (by
                have h2 := flat_len (fun t => lfB 2 (gL l (J + t))) (fun _ => 1) 230 (List.range t) (fun z hz => by
                  have hz' := List.mem_range.1 hz
                  obtain ⟨r, q, v, hr, hq, hv, hlf, _⟩ := HLX.out z (by omega)
                  have a1 := (uvF_len 9 r).1
                  have a2 := (uvF_len 9 q).1
                  have a3 := textInts_len v
                  rw [hlf]
                  simp only [List.length_append]
                  split
                  · omega
                  · simp; omega)
                have h3 : ∀ ls : List Nat, (ls.map fun _ => 1).sum = ls.length := fun ls => by
                  induction ls with
                  | nil => rfl
                  | cons a r ih => simp only [List.map_cons, List.sum_cons, ih, List.length_cons]; omega
                rw [h3, List.length_range] at h2
                have := HL7.out
                rw [List.length_append]
                omega)
              obtain ⟨us, hus⟩ : ∃ us, ys ++ ((List.range t).flatMap fun t => lfB 2 (gL l (J + t))) = us := ⟨_, rfl⟩
              rw [hus] at HBt HTK HLt
              clear hus hlf
              have hur := uvF_len 9 r
              have huq := uvF_len 9 q
              go_wp2_with fail
              refine (specPut1 r _ (by omega)).mono ?_
              rintro e y1 ⟨u1, rfl, oo1, bb1, zz1⟩
              obtain ⟨u2, y2, ha2, bu2⟩ := HBt.out.app bb1 oo1 hur.2 (by have := HLt.out; omega)
              have HB2 := hid bu2
              clear bu2 bb1 oo1 zz1 HBt k2 k3 k4
              obtain ⟨k2, k3, k4⟩ := HK.out _ HB2.out.b
              go_wp2_with (at_builtin; refine wpList_app2 rfl _ _ _ _ rfl ha2 (by rfl) (by rfl) rfl ?_; clear ha2)
              refine (specPut1 q _ (by omega)).mono ?_
              rintro e y3 ⟨u3, rfl, oo3, bb3, zz3⟩
              obtain ⟨u4, y4, ha4, bu4⟩ := HB2.out.app bb3 oo3 huq.2 (by have := HLt.out; rw [List.length_append]; omega)
              have HB4 := hid bu4
              clear bu4 bb3 oo3 zz3 HB2 k2 k3 k4
              obtain ⟨k2, k3, k4⟩ := HK.out _ HB4.out.b
              go_wp2_with (at_builtin; refine wpList_app2 rfl _ _ _ _ rfl ha4 (by rfl) (by rfl) rfl ?_; clear ha4)
              go_roundw
              case rel => exact ⟨t + 1, htg, by go_num, hid (by rw [HTK.out]; simpa using HB4.out)⟩
              case measure => simp [intOf]; omega
            · obtain rfl : g = t := by omega
              have HFZ : Hid (Bd w wr u6 ((kS l p (J + g)).flatMap (kB l f p))) := hid (by rw [HG.out.1, List.flatMap_append, HZS.out]; simp only [List.flatMap_cons, List.flatMap_nil, List.append_nil]; rw [HKB.out]; simpa [← HYS.out] using HBt.out)
              have HCN2 : Hid ((kS l p (J + g)).length = cn + 1) := hid (by rw [HG.out.1, List.length_append, HCN.out]; rfl)
              have HFR2 : Hid (0 < M - g → ∀ y, nx p (gL l (J + g)) = some y → y ∉ kS l p (J + g)) := hid (fun h => HG.out.2.2.2.1 (by omega))
              clear HBt HZS HCN HFR
              by_cases hgc : g < c'
              · go_wp2_with fail
                go_roundw
                case rel => exact ⟨J + g, M - g, c' - g, some ⟨b, o + g * 5, none⟩, hid (by have := HJ.out; omega), by first | rfl | rw [if_neg (by omega)], by rw [HCN2.out]; go_num, hid ⟨by omega, by omega, fun h => ⟨b, _, rfl, HLA.out.drop g2⟩, HFR2.out⟩, HFZ⟩
                case measure => simp [sLen]; omega
              · go_wp2_with fail
                go_roundw
                case rel => exact ⟨J + g, M - g, c' - g, some ⟨b, o, none⟩, hid (by have := HJ.out; omega), by first | rfl | rw [if_pos (by omega)], by rw [HCN2.out]; go_num, hid ⟨by omega, by omega, fun h => by omega, HFR2.out⟩, HFZ⟩
                case measure => simp [sLen]; omega

        · have HKB : Hid (kB l f p (s, 3) = textInts s ++ ([3] ++ tB l f (p ++ [s]))) := hid (by unfold kB; rw [if_pos rfl])
          have HTL : Hid ((tB l f (p ++ [s])).length ≤ 90000000 ∧ 0 < (tB l f (p ++ [s])).length) := hid ⟨by
            have h1 := HG.out.2.2.2.2
            rw [HG.out.1, List.flatMap_append, List.length_append] at h1
            simp only [List.flatMap_cons, List.flatMap_nil, List.append_nil] at h1
            rw [HKB.out] at h1
            simp only [List.length_append] at h1
            omega, by
            obtain ⟨f', rfl⟩ : ∃ f', f = f' + 1 := ⟨f - 1, by omega⟩
            exact tB_pos _ _ _⟩
          obtain ⟨v5, w5, happ5, bd5⟩ := HBd4.out.byte 3 (by have := HL4.out; omega)
          have HBd5 := hid bd5
          have HL5 : Hid ((zs ++ textInts s ++ [3]).length ≤ 90000051) := hid (by have := HL4.out; rw [List.length_append]; simp; simpa using this)
          clear bd5 HBd4 hts
          go_wp2_with (at_builtin; first | (refine wpList_app2 rfl _ _ _ _ rfl happ (by rfl) (by rfl) rfl ?_; clear happ) | (refine wpList_app2 rfl _ _ _ _ rfl happ5 (by rfl) (by rfl) rfl ?_; clear happ5))
          refine (HIH.out s hf J g c' (some ⟨b, o, none⟩) w5 (by omega) hc2 (HG.out.2.2.1 s rfl) (fun _ => ⟨b, o, rfl, (HLA.out.take g2).below HBd5.out.b⟩) HTL.out.1).mono ?_
          rintro e w6 ⟨v6, rfl, o6, b6⟩
          obtain ⟨v7, w7, happ7, bd7⟩ := HBd5.out.app b6 o6 HTL.out.2 (by have := HL5.out; have := HTL.out.1; omega)
          have HBd7 := hid bd7
          clear bd7 o6 b6 HBd5
          have HFZ : Hid (Bd w w7 v7 ((kS l p (J + g)).flatMap (kB l f p))) := hid (by rw [HG.out.1, List.flatMap_append, HZS.out]; simp only [List.flatMap_cons, List.flatMap_nil, List.append_nil]; rw [HKB.out]; simpa [List.append_assoc] using HBd7.out)
          have HCN2 : Hid ((kS l p (J + g)).length = cn + 1) := hid (by rw [HG.out.1, List.length_append, HCN.out]; rfl)
          have HFR2 : Hid (0 < M - g → ∀ y, nx p (gL l (J + g)) = some y → y ∉ kS l p (J + g)) := hid (fun h => HG.out.2.2.2.1 (by omega))
          clear HBd7 HZS HCN HFR
          by_cases hgc : g < c'
          · go_wp2_with (at_builtin; refine wpList_app2 rfl _ _ _ _ rfl happ7 (by rfl) (by rfl) rfl ?_; clear happ7)
            go_roundw
            case rel => exact ⟨J + g, M - g, c' - g, some ⟨b, o + g * 5, none⟩, hid (by have := HJ.out; omega), by first | rfl | rw [if_neg (by omega)], by rw [HCN2.out]; go_num, hid ⟨by omega, by omega, fun h => ⟨b, _, rfl, HLA.out.drop g2⟩, HFR2.out⟩, HFZ⟩
            case measure => simp [sLen]; omega
          · go_wp2_with (at_builtin; refine wpList_app2 rfl _ _ _ _ rfl happ7 (by rfl) (by rfl) rfl ?_; clear happ7)
            go_roundw
            case rel => exact ⟨J + g, M - g, c' - g, some ⟨b, o, none⟩, hid (by have := HJ.out; omega), by first | rfl | rw [if_pos (by omega)], by rw [HCN2.out]; go_num, hid ⟨by omega, by omega, fun h => by omega, HFR2.out⟩, HFZ⟩
            case measure => simp [sLen]; omega

      · obtain rfl : M = 0 := by omega
        have HST : Hid (kS l p J = kS l p l.length) := hid (by have h1 := HJ.out; have h2 := HIv.out; rw [h2.stop l.length h2.2.2 (Nat.le_refl _)]; congr 1; omega)
        have HKS : Hid ((kS l p J).length ≤ 1000 ∧ uvF 9 (kS l p J).length ++ (kS l p J).flatMap (kB l f p) = TB) := hid ⟨by have := kS_len l p J; have h1 := HJ.out; have h2 := HIv.out.2.2; have := hbd.len; omega, by rw [HST.out]; exact HTE.out⟩
        obtain ⟨cn, hcn⟩ : ∃ cn, (kS l p J).length = cn := ⟨_, rfl⟩
        obtain ⟨zs, hzs⟩ : ∃ zs, (kS l p J).flatMap (kB l f p) = zs := ⟨_, rfl⟩
        rw [hcn, hzs] at HKS
        rw [hzs] at HBd
        have hcn2 := HKS.out.1
        simp only [hcn]
        clear hcn hzs HLp HST HJ
        go_wp2_with fail
        refine (specPut1 cn _ (by omega)).mono ?_
        rintro e w1 ⟨v1, rfl, o1, b1, z1⟩
        obtain ⟨v2, w2, happ, o2, b2⟩ := HBd.out.front b1 o1 (by have h1 := HKS.out.2; have h2 : TB.length ≤ 90000000 := hl; rw [← h1, List.length_append] at h2; omega)
        rw [HKS.out.2] at o2
        have HO := hid o2
        have HB := hid b2
        clear o2 b2 b1 o1 z1 HBd
        go_wp2_with (at_builtin; refine wpList_app2 rfl _ _ _ _ rfl happ (by rfl) (by rfl) rfl ?_; clear happ)
        go_ret
        exact ⟨v2, rfl, HO.out, HB.out⟩
theorem l4TreeC {R F T : Nat → Int} {n : Nat} (l : List Lf) (hlv : LvOk R F T n l l.length) (hbd : LvB l) : ∀ (f : Nat) (p : List ByteArray), p.length + f = 8 → 1 ≤ f → ∀ (i m c : Nat) (a : Option Addr) (w : World), m ≤ c → c ≤ 9223372036854775807 → Iv l p i (i + m) → (0 < m → ∃ b off, a = some ⟨b, off, none⟩ ∧ LAt w b off l i m) → (tB l f p).length ≤ 90000000 →
    Calls Tryz.prog 64 #[.slice a m c, .int .i64 (p.length : Int)] w fun e w' => ∃ v, e = .returned v ∧ Own w' w.heap.size v (tB l f p) ∧ Below w.heap.size w w' := by
  intro f
  induction f with
  | zero => intro p _ h1; omega
  | succ f IH => exact fun p hpf _ i m c a w h1 h2 h3 h4 h5 => l4TreeStep l hlv hbd f p hpf (fun s hf => IH (p ++ [s]) (by rw [List.length_append]; simp; omega) hf) i m c a w h1 h2 h3 h4 h5
end Go.Proofs.YtdenbicnckkdfaaGreat
