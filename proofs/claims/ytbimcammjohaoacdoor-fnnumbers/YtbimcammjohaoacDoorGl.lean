import Derived.Test.YtbimcammjohaoacDoorGk
namespace Go.Proofs.YtbimcammjohaoacDoor
open Go.ChangeShapes Go.WideShapes Go.ChangeAt Go.RowKit
set_option linter.unusedVariables false
set_option linter.unusedSimpArgs false

set_option maxRecDepth 100000 in
set_option maxHeartbeats 1000000 in
theorem placeOf (pb B : Nat) (x : Int) (u : Value) (aT aS aL aE : Addr) (w : World) (hP : Plc w pb x u) (hE : Errs w B aT aS aL aE) (hB : B ≤ w.heap.size) :
    Calls Tryd.prog 25 #[.iface 85 (.pointer (some ⟨pb, 0, none⟩))] w fun e w' => e = .returned (.int .i64 x) ∧ Below w.heap.size w w' := by
  obtain ⟨W, hW⟩ : ∃ W, w.alloc (.cells #[.pointer none] 85) = W := ⟨_, rfl⟩
  have bW : Below w.heap.size w W := by rw [← hW]; exact (Below.refl _ _).alloc (Nat.le_refl _) _
  have zW : W.heap.size = w.heap.size + 1 := by rw [← hW]; simp
  have hE1 := hE.below (bW.mono hB)
  have hT : W.cell? ⟨w.heap.size, 0, none⟩ = some (.pointer none) := by rw [← hW]; simp
  have hF : W.frozen? ⟨w.heap.size, 0, none⟩ = false := by rw [← hW]; simp
  have hP1 := hP.below bW hP.2.2
  have HA := hid (as_hit ⟨pb, 0, none⟩ ⟨w.heap.size, 0, none⟩ _ W hE1.gY hT hF)
  have hplt := hP.2.2
  clear hE hE1
  go_enter Tryd.func25, Tryd.ntmps25
  go_wp2_with fail
  try rw [hW]
  clear hW
  refine HA.out.mono ?_
  obtain ⟨W2, hW2⟩ : ∃ W2, ((((W.alloc (.cells #[.pointer (some ⟨w.heap.size, 0, none⟩)] 89)).alloc (.cells #[.pointer (some ⟨5, 89, none⟩), .pointer (some ⟨W.heap.size, 0, none⟩), .int .u64 150] 104)).alloc (.cells #[.pointer (some ⟨5, 89, none⟩), .pointer (some ⟨W.heap.size, 0, none⟩), .int .u64 150] 104)).alloc (.cells #[.pointer (some ⟨pb, 0, none⟩)] 85)) = W2 := ⟨_, rfl⟩
  rw [hW2]
  have bW2 : Below W.heap.size W W2 := by
    rw [← hW2]
    exact ((((Below.refl _ _).alloc (Nat.le_refl _) _).alloc (by simp) _).alloc (by simp; omega) _).alloc (by simp; omega) _
  clear hW2 HA
  have hT2 := (bW2.cell (p := ⟨w.heap.size, 0, none⟩) (by show w.heap.size < _; omega)).trans hT
  have c0 : (W2.setCell ⟨w.heap.size, 0, none⟩ (.pointer (some ⟨pb, 0, none⟩))).cell? ⟨w.heap.size, 0, none⟩ = some (.pointer (some ⟨pb, 0, none⟩)) := World.cell?_setCell_same _ _ _ hT2
  have c1 : (W2.setCell ⟨w.heap.size, 0, none⟩ (.pointer (some ⟨pb, 0, none⟩))).cell? ⟨pb, 1, none⟩ = some (.int .i64 x) := by
    rw [World.cell?_setCell_far _ _ _ _ (by simp; omega)]
    exact (bW2.cell (p := ⟨pb, 1, none⟩) (by show pb < _; omega)).trans hP1.1
  have bB : Below w.heap.size w (W2.setCell ⟨w.heap.size, 0, none⟩ (.pointer (some ⟨pb, 0, none⟩))) := (bW.trans (bW2.mono (by omega))).setCell (Nat.le_refl _) _
  obtain ⟨W3, hW3⟩ : ∃ W3, W2.setCell ⟨w.heap.size, 0, none⟩ (.pointer (some ⟨pb, 0, none⟩)) = W3 := ⟨_, rfl⟩
  rw [hW3] at c0 c1 bB ⊢
  have HB := hid bB
  clear hW3 hT2 bW2 bB bW hT hF hP1 hP
  rintro e w1 ⟨rfl, rfl⟩
  go_wp2_with fail
  go_ret
  exact ⟨rfl, HB.out⟩

theorem wire1 (p1 B : Nat) (x : Int) (k : Nat) (aT aS aL aE : Addr) (w : World) (hk : k = 1 ∨ k = 2 ∨ k = 3) (hP : Plc w p1 x (.iface 136 (.pointer (some (adr aT aS aE k))))) (hE : Errs w B aT aS aL aE) :
    Calls Tryd.prog 26 #[.iface 85 (.pointer (some ⟨p1, 0, none⟩))] w fun e w' => e = .returned (.int .i64 (k : Int)) ∧ w' = w := by
  have gT := hE.gT
  have gS := hE.gS
  have gL := hE.gL
  obtain ⟨cT, tT, hbT⟩ := hE.bT
  obtain ⟨cS, tS, hbS⟩ := hE.bS
  obtain ⟨cL, tL, hbL⟩ := hE.bL
  obtain ⟨cE, tE, hbE⟩ := hE.bE
  have h1 := hP.2.1
  rcases hk with rfl | rfl | rfl
  · have e : adr aT aS aE 1 = aE := rfl
    rw [e] at h1
    have H1 := hid (is1_other p1 aE aT cE cT tE tT w h1 hE.nTE.symm hbE hbT)
    have H2 := hid (is1_other p1 aE aS cE cS tE tS w h1 hE.nSE.symm hbE hbS)
    have H3 := hid (is1_other p1 aE aL cE cL tE tL w h1 hE.nLE.symm hbE hbL)
    clear h1 hbT hbS hbL hbE hE hP
    go_enter Tryd.func26, Tryd.ntmps26
    go_wp2_with fail
    refine H1.out.mono ?_
    rintro e w1 ⟨rfl, rfl⟩
    go_wp2_with fail
    refine H2.out.mono ?_
    rintro e w1 ⟨rfl, rfl⟩
    go_wp2_with fail
    refine H3.out.mono ?_
    rintro e w1 ⟨rfl, rfl⟩
    go_wp2_with fail
    go_ret
    exact ⟨rfl, rfl⟩
  · have e : adr aT aS aE 2 = aT := rfl
    rw [e] at h1
    have H1 := hid (is1_same p1 aT w h1)
    clear h1 hbT hbS hbL hbE hE hP
    go_enter Tryd.func26, Tryd.ntmps26
    go_wp2_with fail
    refine H1.out.mono ?_
    rintro e w1 ⟨rfl, rfl⟩
    go_wp2_with fail
    go_ret
    exact ⟨rfl, rfl⟩
  · have e : adr aT aS aE 3 = aS := rfl
    rw [e] at h1
    have H1 := hid (is1_other p1 aS aT cS cT tS tT w h1 hE.nTS.symm hbS hbT)
    have H2 := hid (is1_same p1 aS w h1)
    clear h1 hbT hbS hbL hbE hE hP
    go_enter Tryd.func26, Tryd.ntmps26
    go_wp2_with fail
    refine H1.out.mono ?_
    rintro e w1 ⟨rfl, rfl⟩
    go_wp2_with fail
    refine H2.out.mono ?_
    rintro e w1 ⟨rfl, rfl⟩
    go_wp2_with fail
    go_ret
    exact ⟨rfl, rfl⟩

theorem guC_or (f : Nat → Int) (n p m : Nat) : guC f n p m = 0 ∨ (guC f n p m = 1 ∨ guC f n p m = 2 ∨ guC f n p m = 3) := by
  unfold guC
  repeat' split
  all_goals simp

def gX (f : Nat → Int) (n m : Nat) (x : Int) : Nat × Int × Nat := if 0 ≤ x ∧ x < n then (guV f n x.toNat m, (guA f n x.toNat m : Int), guC f n x.toNat m) else (0, x, 1)

set_option maxRecDepth 100000 in
set_option maxHeartbeats 1000000 in
theorem implGuOut (B : Nat) (a : Option Addr) (n c : Nat) (x : Int) (aT aS aL aE : Addr) (w : World) (hn : n ≤ 1048576) (hx : x < 0 ∨ (n : Int) ≤ x) (hE : Errs w B aT aS aL aE) (hB : B ≤ w.heap.size) :
    Calls Tryd.prog 8 #[.slice a n c, .int .i64 x] w fun e w' => e = .returned (.tuple #[.int .u64 0, .int .i64 x, .int .i64 1]) ∧ Below w.heap.size w w' := by
  obtain ⟨W, hW⟩ : ∃ W, w.alloc (.cells #[.slice a n c, .int .i64 x] 52) = W := ⟨_, rfl⟩
  have bW : Below w.heap.size w W := by rw [← hW]; exact (Below.refl _ _).alloc (Nat.le_refl _) _
  have zW : W.heap.size = w.heap.size + 1 := by rw [← hW]; simp
  have hE1 := hE.below (bW.mono hB)
  have hcu : Cur W w.heap.size a n c x := by rw [← hW]; exact ⟨by simp, by simp, by simp⟩
  have H1 := hid (uvOut w.heap.size B a n c x aT aS aL aE W hn hcu hx hE1)
  have HB := hid bW
  have HE := hid hE
  clear hE hE1 hcu bW
  go_enter Tryd.func8, Tryd.ntmps8
  go_wp2_with fail
  try rw [hW]
  clear hW
  refine H1.out.mono ?_
  rintro e w1 ⟨pb, rfl, hpb, hP, b1⟩
  have HP := hid hP
  have z1 := b1.size
  have HB1 := hid (HB.out.trans (b1.mono HB.out.size))
  clear hP b1
  go_wp2_with fail
  refine (placeOf pb B x _ aT aS aL aE _ HP.out (HE.out.below (HB1.out.mono hB)) (by omega)).mono ?_
  rintro e w2 ⟨rfl, b2⟩
  have HP2 := hid (HP.out.below b2 HP.out.2.2)
  have HB2 := hid (HB1.out.trans (b2.mono HB1.out.size))
  clear b2
  go_wp2_with fail
  refine (wire1 pb B x 1 aT aS aL aE _ (.inl rfl) HP2.out (HE.out.below (HB2.out.mono hB))).mono ?_
  rintro e w3 ⟨rfl, rfl⟩
  go_wp2_with fail
  go_ret3
  exact ⟨rfl, HB2.out⟩

set_option maxRecDepth 100000 in
set_option maxHeartbeats 1000000 in
theorem implGu (B : Nat) (a : Option Addr) (n c p m : Nat) (f : Nat → Int) (aT aS aL aE : Addr) (w : World) (hn : n ≤ 1048576) (hf : Byt f) (h : Seg w a n f) (hp : p < n) (hm : Cnt f n p m) (hE : Errs w B aT aS aL aE) (hB : B ≤ w.heap.size) :
    Calls Tryd.prog 8 #[.slice a n c, .int .i64 (p : Int)] w fun e w' => e = .returned (.tuple #[.int .u64 (guV f n p m : Int), .int .i64 (guA f n p m : Int), .int .i64 (guC f n p m : Int)]) ∧ Below w.heap.size w w' := by
  rcases h with h | ⟨b, off, rfl, hb, hc⟩
  · omega
  obtain ⟨W, hW⟩ : ∃ W, w.alloc (.cells #[.slice (some ⟨b, off, none⟩) n c, .int .i64 (p : Int)] 52) = W := ⟨_, rfl⟩
  have bW : Below w.heap.size w W := by rw [← hW]; exact (Below.refl _ _).alloc (Nat.le_refl _) _
  have zW : W.heap.size = w.heap.size + 1 := by rw [← hW]; simp
  have hE1 := hE.below (bW.mono hB)
  have hcu : Cur W w.heap.size (some ⟨b, off, none⟩) n c (p : Int) := by rw [← hW]; exact ⟨by simp, by simp, by simp⟩
  have H1 := hid (uvIn w.heap.size B b off n c p m f aT aS aL aE W hn hf hcu hp hm hE1 hB (by omega) (by omega) (fun i hi => (bW.cell (p := ⟨b, _, none⟩) hb).trans (hc i hi)))
  have HB := hid bW
  have HE := hid hE
  clear hE hE1 hcu bW hc hm hf
  go_enter Tryd.func8, Tryd.ntmps8
  go_wp2_with fail
  try rw [hW]
  clear hW
  refine H1.out.mono ?_
  rintro e w1 ⟨g1, hres⟩
  have HB1 := hid (HB.out.trans ((Below.refl w.heap.size W).grown g1 HB.out.size (fun k hk => by injection hk with hk; omega)))
  have z1 := HB1.out.size
  clear g1 H1
  rcases hres with ⟨h0, rfl, hcu⟩ | ⟨h0, pb, rfl, hpb, hP, _⟩
  · have q1 := hcu.2.1
    have H0 := hid h0
    clear hcu h0
    go_wp2_with fail
    go_quiet (fail)
    go_wp2_with fail
    go_ret3
    exact ⟨retG rfl rfl (by rw [H0.out]; rfl), below_drewN HB1.out _⟩
  · have HP := hid hP
    have H0 : Hid (guC f n p m = 1 ∨ guC f n p m = 2 ∨ guC f n p m = 3) := by rcases guC_or f n p m with h | h; exact absurd h h0; exact h
    have HV : Hid (guV f n p m = 0 ∧ guA f n p m = p) := by show _ ∧ _; unfold guV guA; rw [if_neg h0, if_neg h0]; exact ⟨rfl, rfl⟩
    clear h0 hP
    go_wp2_with fail
    refine (placeOf pb B (p : Int) _ aT aS aL aE _ HP.out (HE.out.below (HB1.out.mono hB)) (by omega)).mono ?_
    rintro e w2 ⟨rfl, b2⟩
    have HP2 := hid (HP.out.below b2 HP.out.2.2)
    have HB2 := hid (HB1.out.trans (b2.mono HB1.out.size))
    clear b2
    go_wp2_with fail
    refine (wire1 pb B (p : Int) (guC f n p m) aT aS aL aE _ H0.out HP2.out (HE.out.below (HB2.out.mono hB))).mono ?_
    rintro e w3 ⟨rfl, rfl⟩
    go_wp2_with fail
    go_ret3
    exact ⟨retG (by rw [HV.out.1]; rfl) (by rw [HV.out.2]) rfl, HB2.out⟩
end Go.Proofs.YtbimcammjohaoacDoor
