import Derived.Test.YtbimcammjohaoacDoorGv
namespace Go.Proofs.YtbimcammjohaoacDoor
open Go.ChangeShapes Go.WideShapes Go.ChangeAt Go.RowKit
set_option linter.unusedVariables false
set_option linter.unusedSimpArgs false

theorem wire2 (p1 p2 B : Nat) (x y : Int) (k : Nat) (aT aS aL aE : Addr) (w : World) (hk : k = 1 ∨ k = 2 ∨ k = 3) (hP : Plc w p1 x (.iface 85 (.pointer (some ⟨p2, 0, none⟩)))) (hP2 : Plc w p2 y (.iface 136 (.pointer (some (adr aT aS aE k))))) (hE : Errs w B aT aS aL aE) :
    Calls Tryd.prog 26 #[.iface 85 (.pointer (some ⟨p1, 0, none⟩))] w fun e w' => e = .returned (.int .i64 (k : Int)) ∧ w' = w := by
  have gT := hE.gT
  have gS := hE.gS
  have gL := hE.gL
  obtain ⟨cT, tT, hbT⟩ := hE.bT
  obtain ⟨cS, tS, hbS⟩ := hE.bS
  obtain ⟨cL, tL, hbL⟩ := hE.bL
  obtain ⟨cE, tE, hbE⟩ := hE.bE
  have h1 := hP.2.1
  have h2 := hP2.2.1
  rcases hk with rfl | rfl | rfl
  · have e : adr aT aS aE 1 = aE := rfl
    rw [e] at h2
    have H1 := hid (is2_other p1 p2 aE aT cE cT tE tT w h1 h2 hE.nTE.symm hbE hbT)
    have H2 := hid (is2_other p1 p2 aE aS cE cS tE tS w h1 h2 hE.nSE.symm hbE hbS)
    have H3 := hid (is2_other p1 p2 aE aL cE cL tE tL w h1 h2 hE.nLE.symm hbE hbL)
    clear h1 h2 hbT hbS hbL hbE hE hP hP2
    go_enter Tryd.func26, Tryd.ntmps26
    go_wp2_with fail
    refine H1.out.mono ?_
    rintro e w1 ⟨rfl, rfl⟩
    go_wp2_with fail
    refine H2.out.mono ?_
    rintro e w1 ⟨rfl, rfl⟩
    go_wp2_with fail
    refine H3.out.mono ?_
    rintro e w1 ⟨rfl, rfl⟩
    go_wp2_with fail
    go_ret
    exact ⟨rfl, rfl⟩
  · have e : adr aT aS aE 2 = aT := rfl
    rw [e] at h2
    have H1 := hid (is2_same p1 p2 aT w h1 h2)
    clear h1 h2 hbT hbS hbL hbE hE hP hP2
    go_enter Tryd.func26, Tryd.ntmps26
    go_wp2_with fail
    refine H1.out.mono ?_
    rintro e w1 ⟨rfl, rfl⟩
    go_wp2_with fail
    go_ret
    exact ⟨rfl, rfl⟩
  · have e : adr aT aS aE 3 = aS := rfl
    rw [e] at h2
    have H1 := hid (is2_other p1 p2 aS aT cS cT tS tT w h1 h2 hE.nTS.symm hbS hbT)
    have H2 := hid (is2_same p1 p2 aS w h1 h2)
    clear h1 h2 hbT hbS hbL hbE hE hP hP2
    go_enter Tryd.func26, Tryd.ntmps26
    go_wp2_with fail
    refine H1.out.mono ?_
    rintro e w1 ⟨rfl, rfl⟩
    go_wp2_with fail
    refine H2.out.mono ?_
    rintro e w1 ⟨rfl, rfl⟩
    go_wp2_with fail
    go_ret
    exact ⟨rfl, rfl⟩

theorem wireL (p1 B : Nat) (x : Int) (aT aS aL aE : Addr) (w : World) (hP : Plc w p1 x (.iface 136 (.pointer (some aL)))) (hE : Errs w B aT aS aL aE) :
    Calls Tryd.prog 26 #[.iface 85 (.pointer (some ⟨p1, 0, none⟩))] w fun e w' => e = .returned (.int .i64 4) ∧ w' = w := by
  have gT := hE.gT
  have gS := hE.gS
  have gL := hE.gL
  obtain ⟨cT, tT, hbT⟩ := hE.bT
  obtain ⟨cS, tS, hbS⟩ := hE.bS
  obtain ⟨cL, tL, hbL⟩ := hE.bL
  have h1 := hP.2.1
  have H1 := hid (is1_other p1 aL aT cL cT tL tT w h1 hE.nTL.symm hbL hbT)
  have H2 := hid (is1_other p1 aL aS cL cS tL tS w h1 hE.nSL.symm hbL hbS)
  have H3 := hid (is1_same p1 aL w h1)
  clear h1 hbT hbS hbL hE hP
  go_enter Tryd.func26, Tryd.ntmps26
  go_wp2_with fail
  refine H1.out.mono ?_
  rintro e w1 ⟨rfl, rfl⟩
  go_wp2_with fail
  refine H2.out.mono ?_
  rintro e w1 ⟨rfl, rfl⟩
  go_wp2_with fail
  refine H3.out.mono ?_
  rintro e w1 ⟨rfl, rfl⟩
  go_wp2_with fail
  go_ret
  exact ⟨rfl, rfl⟩

inductive TX (f : Nat → Int) (n m : Nat) (x most : Int) (cb : Nat) (a : Option Addr) (c : Nat) (aT aS aL aE : Addr) (B : Nat) (w' : World) : Value → Value → Prop
  | bad (pb : Nat) (u : Value) (h : (gtX f n m x most).2.2 ≠ 0) (hP : Plc w' pb x u) (hw : ∀ w2, Below w'.heap.size w' w2 → Errs w2 B aT aS aL aE → Calls Tryd.prog 26 #[.iface 85 (.pointer (some ⟨pb, 0, none⟩))] w2 fun e w3 => e = .returned (.int .i64 ((gtX f n m x most).2.2 : Int)) ∧ w3 = w2) : TX f n m x most cb a c aT aS aL aE B w' (.string ⟨#[]⟩) (.iface 85 (.pointer (some ⟨pb, 0, none⟩)))
  | ok (h : (gtX f n m x most).2.2 = 0) (hc : Cur w' cb a n c (gtX f n m x most).2.1) : TX f n m x most cb a c aT aS aL aE B w' (.string (gtX f n m x most).1) .nilIface

set_option maxRecDepth 100000 in
set_option maxHeartbeats 1000000 in
theorem textM (cb B : Nat) (a : Option Addr) (n c m : Nat) (x most : Int) (f : Nat → Int) (aT aS aL aE : Addr) (w : World) (hn : n ≤ 1048576) (hnc : n ≤ c) (hf : Byt f) (h : Seg w a n f) (hcur : Cur w cb a n c x) (hm : Cnt f n x.toNat m) (hE : Errs w B aT aS aL aE) (hBc : B ≤ cb) (hne : ∀ y, a = some y → y.block ≠ cb) (hx : (Lit.int .i64 x).wf = true) (hmo : (Lit.int .i64 most).wf = true) :
    Calls Tryd.prog 28 #[.pointer (some ⟨cb, 0, none⟩), .int .i64 most] w fun e w' => ∃ v u, e = .returned (.tuple #[v, u]) ∧ w.grownBy w' (some cb) ∧ TX f n m x most cb a c aT aS aL aE B w' v u := by
  have bx := bounds_i64 hx
  have bm := bounds_i64 hmo
  have HG := hid (gX_bounds hm hf hn bx.1 bx.2)
  have HU := hid (textLen cb B a n c m x most f aT aS aL aE w hn hf h hcur hm hE hBc hne hx hmo)
  have hcl := hcur.lt
  have HTbad := hid (fun w' => @TX.bad f n m x most cb a c aT aS aL aE B w')
  have HTok := hid (fun w' => @TX.ok f n m x most cb a c aT aS aL aE B w')
  obtain ⟨T, hT⟩ : ∃ T, TX f n m x most cb a c aT aS aL aE B = T := ⟨_, rfl⟩
  rw [hT] at HTbad HTok
  rw [hT]
  have HH := hid h
  have HF := hid hf
  have HGT : Hid (gtX f n m x most = if (gX f n m x).2.2 ≠ 0 then (⟨#[]⟩, x, (gX f n m x).2.2)
      else if most < 0 ∨ most < (gX f n m x).1 then (⟨#[]⟩, x, 4)
      else if (n : Int) - (gX f n m x).2.1 < (gX f n m x).1 then (⟨#[]⟩, x, 1)
      else (strF f (gX f n m x).2.1.toNat (gX f n m x).1, (gX f n m x).2.1 + (gX f n m x).1, 0)) := hid rfl
  have hout : (gX f n m x).2.2 = 0 → 0 < n := fun h0 => by
    rcases Nat.eq_zero_or_pos n with h1 | h1
    · rw [gX_out (by omega)] at h0; simp at h0
    · exact h1
  obtain ⟨k0, k1, k2⟩ := hcur
  clear hT hm hx hmo h hE hf
  go_enter Tryd.func28, Tryd.ntmps28
  go_wp2_with fail
  refine HU.out.mono ?_
  rintro e w1 ⟨v, u, rfl, g1, hTL⟩
  have HGr := hid g1
  have z1 := g1.size
  clear g1 HU k0 k1 k2
  have al := fun (o : Obj) => (Below.refl w1.heap.size w1).alloc (Nat.le_refl _) o
  cases hTL with
  | bad pb y h0 hP cu =>
    have HE4 : Hid ((gtX f n m x most).2.2 = (gX f n m x).2.2) := by show _ = _; rw [HGT.out, if_pos h0]
    have H0 := hid h0
    have HP := hid hP
    have hk := (show Hid ((gX f n m x).2.2 = 1 ∨ (gX f n m x).2.2 = 2 ∨ (gX f n m x).2.2 = 3) from by have := HG.out.2.1; show _ ∨ _; omega)
    clear h0 hP cu hout
    go_wp2_with fail
    go_ret2
    refine ⟨_, _, rfl, grown_below HGr.out (al _), HTbad.out _ _ (.iface 85 (.pointer (some ⟨pb, 0, none⟩))) (by rw [HE4.out]; exact H0.out) ⟨by simp, by simp, by simp⟩ (fun w2 b2 hE2 => ?_)⟩
    rw [HE4.out]
    exact wire2 w1.heap.size pb B x x _ aT aS aL aE w2 hk.out (Plc.below ⟨by simp, by simp, by simp⟩ b2 (by simp)) ((HP.out.below (al _) HP.out.2.2).below b2 (by have := HP.out.2.2; simp; omega)) hE2
  | long y h0 h1 cu =>
    have HE4 : Hid ((gtX f n m x most).2.2 = 4) := by show _ = _; rw [HGT.out, if_neg (by simp [h0]), if_pos h1]
    clear h0 h1 cu hout
    go_wp2_with fail
    go_ret2
    refine ⟨_, _, rfl, grown_below HGr.out (al _), HTbad.out _ _ (.iface 136 (.pointer (some aL))) (by rw [HE4.out]; omega) ⟨by simp, by simp, by simp⟩ (fun w2 b2 hE2 => ?_)⟩
    rw [HE4.out]
    exact wireL w1.heap.size B x aT aS aL aE w2 (Plc.below ⟨by simp, by simp, by simp⟩ b2 (by simp)) hE2
  | ends y h0 h1 h2 cu =>
    have HE4 : Hid ((gtX f n m x most).2.2 = 1) := by show _ = _; rw [HGT.out, if_neg (by simp [h0]), if_neg h1, if_pos h2]
    clear h0 h1 h2 cu hout
    go_wp2_with fail
    go_ret2
    refine ⟨_, _, rfl, grown_below HGr.out (al _), HTbad.out _ _ (.iface 136 (.pointer (some aE))) (by rw [HE4.out]; omega) ⟨by simp, by simp, by simp⟩ (fun w2 b2 hE2 => ?_)⟩
    rw [HE4.out]
    exact wire1 w1.heap.size B x 1 aT aS aL aE w2 (.inl rfl) (Plc.below ⟨by simp, by simp [adr], by simp⟩ b2 (by simp)) hE2
  | ok h0 h1 h2 cu =>
    have hn0 := hout h0
    have HE4 : Hid (gtX f n m x most = (strF f (gX f n m x).2.1.toNat (gX f n m x).1, (gX f n m x).2.1 + (gX f n m x).1, 0)) := by show _ = _; rw [HGT.out, if_neg (by simp [h0]), if_neg h1, if_neg h2]
    obtain ⟨b1, _, b3, _⟩ := HG.out
    obtain ⟨b4, b5⟩ := b3 h0
    obtain ⟨V, hV⟩ : ∃ V, (gX f n m x).1 = V := ⟨_, rfl⟩
    obtain ⟨A, hA⟩ : ∃ A, (gX f n m x).2.1 = A := ⟨_, rfl⟩
    rw [hV, hA] at HE4
    rw [hA] at b4 b5 cu
    rw [hV] at b1
    rw [hV] at h1
    rw [hV, hA] at h2
    rw [hV]
    clear hV hA b3 hout h0 HG HGT
    obtain ⟨q, rfl⟩ : ∃ q : Nat, A = (q : Int) := ⟨A.toNat, by omega⟩
    have HC := hid cu
    obtain ⟨k0, k1, k2⟩ := cu
    have hwV : IntKind.i64.wrap (V : Int) = (V : Int) := wrapIn _ (by omega) (by omega)
    have hqV : q + V ≤ n := by omega
    have hws : IntKind.i64.wrap ((q : Int) + (V : Int)) = (q : Int) + (V : Int) := wrapIn _ (by omega) (by omega)
    obtain ⟨W, hW⟩ : ∃ W, w1.setCell ⟨cb, 1, none⟩ (.int .i64 ((q : Int) + (V : Int))) = W := ⟨_, rfl⟩
    rcases HH.out with h | ⟨b, off, rfl, hb, hc⟩
    · omega
    have hbc := hne _ rfl
    have cu2 : Cur W cb (some ⟨b, off, none⟩) n c ((q : Int) + (V : Int)) := by rw [← hW]; exact HC.out.set _
    have HCu2 := hid cu2
    obtain ⟨j0, j1, j2⟩ := cu2
    have hgW := hid (show w.grownBy W (some cb) from by rw [← hW]; exact grown_trans HGr.out (grown_set (grown_refl _ _) _))
    have hcs : ∀ i, i < V → W.cell? ⟨b, off + q + i, none⟩ = some (.int .u8 (f (q + i))) := fun i hi => by
      rw [World.cell?_of_block (hgW.out.block b hb (by simp; exact hbc)), Nat.add_assoc]; exact hc (q + i) (by omega)
    have hcv : ∀ k cap, (convert 22 9 (.slice (some ⟨b, off + q, none⟩) V cap)).run Tryd.prog (W.drewN k) = .ok (.string (strF f q V)) (W.drewN k) := fun k cap => strF_conv HF.out (fun i hi => by simpa using hcs i hi)
    clear hc hcs
    have hq0 : (0 : Int) ≤ (q : Int) := Int.natCast_nonneg _
    have hqs : (q : Int) ≤ (q : Int) + (V : Int) := by omega
    have hsc : (q : Int) + (V : Int) ≤ (c : Int) := by omega
    have HR := hid (fun k => HTok.out (W.drewN k))
    rw [HE4.out] at HR
    by_cases hcq : q < c
    · go_wp2_with fail
      try rw [hW]
      clear hW
      go_quiet (fail)
      go_wp2_with fail
      go_ret2
      exact ⟨_, _, rfl, hgW.out.andThen (grown_drewN _ _ _) (fun j hj => .inr hj), HR.out _ (by trivial) HCu2.out⟩
    · have hV0 : V ≤ 0 := by omega
      have hcq2 : c ≤ q := by omega
      have hcv0 : ∀ k ad cap, (convert 22 9 (.slice (some ad) V cap)).run Tryd.prog (W.drewN k) = .ok (.string (strF f q V)) (W.drewN k) := fun k ad cap => by
        obtain rfl : V = 0 := by omega
        exact strF_none (w := W.drewN k) ad q cap f
      clear hcv
      go_wp2_with fail
      try rw [hW]
      clear hW
      go_quiet (fail)
      go_wp2_with fail
      go_ret2
      exact ⟨_, _, rfl, hgW.out.andThen (grown_drewN _ _ _) (fun j hj => .inr hj), HR.out _ (by trivial) HCu2.out⟩

theorem retT2 {e : Ending} {s s' : ByteArray} {b c b' c' : Int} (h : e = .returned (.tuple #[.string s, .int .i64 b, .int .i64 c])) (h1 : s = s') (h2 : b = b') (h3 : c = c') : e = .returned (.tuple #[.string s', .int .i64 b', .int .i64 c']) := by rw [h, h1, h2, h3]

set_option maxRecDepth 100000 in
set_option maxHeartbeats 1000000 in
theorem implT (B : Nat) (a : Option Addr) (n c m : Nat) (x most : Int) (f : Nat → Int) (aT aS aL aE : Addr) (w : World) (hn : n ≤ 1048576) (hnc : n ≤ c) (hf : Byt f) (h : Seg w a n f) (hlt : ∀ y, a = some y → y.block < w.heap.size) (hm : Cnt f n x.toNat m) (hE : Errs w B aT aS aL aE) (hB : B ≤ w.heap.size) (hx : (Lit.int .i64 x).wf = true) (hmo : (Lit.int .i64 most).wf = true) :
    Calls Tryd.prog 10 #[.slice a n c, .int .i64 x, .int .i64 most] w fun e w' => e = .returned (.tuple #[.string (gtX f n m x most).1, .int .i64 (gtX f n m x most).2.1, .int .i64 ((gtX f n m x most).2.2 : Int)]) ∧ Below w.heap.size w w' := by
  obtain ⟨W, hW⟩ : ∃ W, w.alloc (.cells #[.slice a n c, .int .i64 x] 52) = W := ⟨_, rfl⟩
  have bW : Below w.heap.size w W := by rw [← hW]; exact (Below.refl _ _).alloc (Nat.le_refl _) _
  have zW : W.heap.size = w.heap.size + 1 := by rw [← hW]; simp
  have hE1 := hE.below (bW.mono hB)
  have hcu : Cur W w.heap.size a n c x := by rw [← hW]; exact ⟨by simp, by simp, by simp⟩
  have H1 := hid (textM w.heap.size B a n c m x most f aT aS aL aE W hn hnc hf (h.below bW) hcu hm hE1 hB (fun y hy => Nat.ne_of_lt (hlt y hy)) hx hmo)
  have hgx : Hid ((gtX f n m x most).2.2 ≠ 0 → (gtX f n m x most).1 = ⟨#[]⟩ ∧ (gtX f n m x most).2.1 = x) := by
    show _ → _
    unfold gtX
    split
    · exact fun _ => ⟨rfl, rfl⟩
    · split
      · exact fun _ => ⟨rfl, rfl⟩
      · split
        · exact fun _ => ⟨rfl, rfl⟩
        · intro h; exact absurd rfl h
  have HB := hid bW
  have HE := hid hE
  clear hE hE1 hcu bW h hm hx hmo
  go_enter Tryd.func10, Tryd.ntmps10
  go_wp2_with fail
  try rw [hW]
  clear hW
  refine H1.out.mono ?_
  rintro e w1 ⟨v, u, rfl, g1, hTX⟩
  have HB1 := hid (HB.out.trans ((Below.refl w.heap.size W).grown g1 HB.out.size (fun k hk => by injection hk with hk; omega)))
  have z1 := HB1.out.size
  clear g1 H1
  cases hTX with
  | ok h0 cu =>
    have q1 := cu.2.1
    have H0 := hid h0
    clear cu h0
    go_wp2_with fail
    go_quiet (fail)
    go_wp2_with fail
    go_ret3
    exact ⟨retT rfl rfl (by rw [H0.out]; rfl), below_drewN HB1.out _⟩
  | bad pb u h0 hP hw =>
    have HP := hid hP
    have HW := hid hw
    have HG := hid (hgx.out h0)
    clear h0 hP hw
    go_wp2_with fail
    refine (placeOf pb B x _ aT aS aL aE _ HP.out (HE.out.below (HB1.out.mono hB)) (by omega)).mono ?_
    rintro e w2 ⟨rfl, b2⟩
    have HB2 := hid (HB1.out.trans (b2.mono HB1.out.size))
    have Hb2 := hid b2
    clear b2
    go_wp2_with fail
    refine (HW.out w2 Hb2.out (HE.out.below (HB2.out.mono hB))).mono ?_
    rintro e w3 ⟨rfl, rfl⟩
    go_wp2_with fail
    go_ret3
    exact ⟨retT (by rw [HG.out.1]) (by rw [HG.out.2]) rfl, HB2.out⟩
end Go.Proofs.YtbimcammjohaoacDoor
