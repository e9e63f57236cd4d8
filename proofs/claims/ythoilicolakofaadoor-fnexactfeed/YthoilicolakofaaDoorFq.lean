import Derived.Test.YthoilicolakofaaDoorFr
namespace Go.Proofs.YthoilicolakofaaDoor
open Go.ChangeShapes Go.WideShapes Go.ChangeAt Go.RowKit
set_option linter.unusedVariables false
set_option linter.unusedSimpArgs false

def mkPos (k0 : Nat) (l : List Fx) (i : Nat) : Nat := k0 + ((l.take i).map (fun x => 1 + x.2.2.length)).sum
theorem mkPos_zero (k0 : Nat) (l : List Fx) : mkPos k0 l 0 = k0 := by simp [mkPos]
theorem mkPos_succ (k0 : Nat) (l : List Fx) (i : Nat) (hi : i < l.length) : mkPos k0 l (i + 1) = mkPos k0 l i + 1 + (gFx l i).2.2.length := by
  have e : l.take (i + 1) = l.take i ++ [gFx l i] := by
    rw [List.take_add_one]
    simp [gFx, List.getD, hi]
  unfold mkPos
  rw [e, List.map_append, List.sum_append]
  simp; omega
theorem mkPos_mono (k0 : Nat) (l : List Fx) : ∀ j i, i + j ≤ l.length → mkPos k0 l i ≤ mkPos k0 l (i + j)
  | 0, i, _ => Nat.le_refl _
  | j + 1, i, h => by
    have := mkPos_mono k0 l j i (by omega)
    have h2 := mkPos_succ k0 l (i + j) (by omega)
    rw [show i + (j + 1) = i + j + 1 from rfl]
    omega
theorem mkPos_le (k0 : Nat) (l : List Fx) {i : Nat} (hi : i ≤ l.length) : mkPos k0 l i ≤ mkPos k0 l l.length := by
  have := mkPos_mono k0 l (l.length - i) i (by omega)
  rwa [show i + (l.length - i) = l.length by omega] at this

def FxM (w : World) (a : Option Addr) (l : List Fx) (k0 : Nat) : Prop :=
  l.length = 0 ∨ ∃ g off, a = some ⟨g, off, none⟩ ∧ g < w.heap.size ∧ ∀ i, i < l.length → w.cell? ⟨g, off + i * 2, none⟩ = some (.int .i64 (mkPos k0 l i : Nat)) ∧ w.cell? ⟨g, off + i * 2 + 1, none⟩ = some (gFx l i).2.1 ∧ ∃ pa cap, (gFx l i).2.1 = .slice pa (gFx l i).2.2.length cap ∧ Seg w pa (gFx l i).2.2.length (mk8 (mkPos k0 l i + 1))
theorem FxM.below {w w1 : World} {a : Option Addr} {l : List Fx} {k0 : Nat} (h : FxM w a l k0) (hb : Below w.heap.size w w1) : FxM w1 a l k0 := by
  refine h.imp id ?_
  rintro ⟨g, o, e, hg, hc⟩
  refine ⟨g, o, e, Nat.lt_of_lt_of_le hg hb.size, fun j hj => ?_⟩
  obtain ⟨h1, h2, pa, cap, h3, h4⟩ := hc j hj
  exact ⟨(hb.cell (p := ⟨g, _, none⟩) hg).trans h1, (hb.cell (p := ⟨g, _, none⟩) hg).trans h2, pa, cap, h3, h4.below hb⟩

set_option maxRecDepth 100000 in
set_option maxHeartbeats 800000 in
theorem heldFrameSC (a : Option Addr) (c k0 : Nat) (l : List Fx) (w : World) (hl : l.length ≤ 1048576) (hk : mkPos k0 l l.length ≤ 1000000000) (h : FxM w a l k0) :
    Calls Tryd.prog 16 #[.slice a l.length c, .int .i64 (k0 : Int)] w fun e w' => e = .returned (.int .i64 (mkPos k0 l l.length : Nat)) ∧ Below w.heap.size w w' := by
  have hk0 : k0 ≤ 1000000000 := by have := mkPos_le k0 l (Nat.zero_le _); rw [mkPos_zero] at this; omega
  have HM := hid (fun i (hi : i < l.length) => mkPos_succ k0 l i hi)
  have HK := hid (fun i (hi : i ≤ l.length) => Nat.le_trans (mkPos_le k0 l hi) hk)
  have HZ := hid (mkPos_zero k0 l)
  obtain ⟨P, hP⟩ : ∃ P, mkPos k0 l = P := ⟨_, rfl⟩
  have HC : Hid (l.length = 0 ∨ ∃ g off, a = some ⟨g, off, none⟩ ∧ g < w.heap.size ∧ ∀ i, i < l.length → w.cell? ⟨g, off + i * 2, none⟩ = some (.int .i64 (P i : Nat)) ∧ w.cell? ⟨g, off + i * 2 + 1, none⟩ = some (gFx l i).2.1 ∧ ∃ pa cap, (gFx l i).2.1 = .slice pa (gFx l i).2.2.length cap ∧ Seg w pa (gFx l i).2.2.length (mk8 (P i + 1))) := by rw [← hP]; exact hid h
  rw [hP] at HM HK HZ ⊢
  clear h hP hk
  obtain ⟨n, hn⟩ : ∃ n, l.length = n := ⟨_, rfl⟩
  rw [hn] at HC HM HK hl ⊢
  clear hn
  rcases HC.out with h | ⟨g, off, rfl, hg, hc⟩
  · subst h
    rw [HZ.out]
    go_enter Tryd.func16, Tryd.ntmps16
    go_wp2
    refine wp_loop_rounds 1 ?_; rw [rounds_succ]; go_wp2
    go_ret
    exact ⟨rfl, Below.refl _ _⟩
  · have HCC := hid hc
    clear hc HC
    go_enter Tryd.func16, Tryd.ntmps16
    go_wp2
    go_loopw [1, 5] (fun k i wr => ∃ j : Nat, j ≤ n ∧ i = .int .i64 (j : Int) ∧ k = .int .i64 (P j : Nat) ∧ Below w.heap.size w wr) (fun _ i _ => n - (intOf i).toNat)
    case atStart => exact ⟨0, Nat.zero_le _, rfl, by rw [HZ.out], Below.refl _ _⟩
    case round =>
      obtain ⟨j, hj, rfl, rfl, hbel⟩ := hrel
      have hpj := HK.out j hj
      by_cases hlt : j < n
      · obtain ⟨q1, q2, pa, cap, q3, q4⟩ := HCC.out j hlt
        have hsj := HM.out j hlt
        have hpk := HK.out (j + 1) hlt
        rw [q3] at q2
        obtain ⟨L, hL⟩ : ∃ L, (gFx l j).2.2.length = L := ⟨_, rfl⟩
        rw [hL] at q2 q4 hsj
        clear q3 hL
        obtain ⟨pj, hpj'⟩ : ∃ pj, P j = pj := ⟨_, rfl⟩
        rw [hpj'] at q1 q4 hsj hpj ⊢
        have u1 := (hbel.cell (p := ⟨g, off + j * 2, none⟩) hg).trans q1
        have u2 := (hbel.cell (p := ⟨g, off + j * 2 + 1, none⟩) hg).trans q2
        have HQ := hid (q4.below hbel)
        have HBL := hid hbel
        have zg : g < wr.heap.size := Nat.lt_of_lt_of_le hg hbel.size
        have HSJ := hid hsj
        have HPJ := hid hpj'
        rw [hsj] at hpk
        clear q1 q2 q4 hbel hsj hpj'
        have HH := hid (heldB pa L cap (pj + 1) wr (by omega) (by omega) HQ.out)
        rw [show ((pj + 1 : Nat) : Int) = (pj : Int) + 1 by push_cast; rfl, show ((pj + 1 + L : Nat) : Int) = (pj : Int) + 1 + (L : Int) by push_cast; rfl] at HH
        have hw1 : IntKind.i64.wrap ((pj : Int) + 1) = (pj : Int) + 1 := by rw [IntKind.wrap_i64]; omega
        have hd1 : decide ((pj : Int) + 1 + (L : Int) < 0) = false := by simp; omega
        go_wp2_with fail
        refine HH.out.mono ?_
        rintro e w1 ⟨rfl, rfl⟩
        clear HH
        go_wp2_with fail
        go_roundw
        case rel => exact ⟨j + 1, hlt, by go_num, by rw [HSJ.out]; push_cast; rfl, HBL.out⟩
        case measure => simp [intOf]; omega
      · obtain rfl : j = n := by omega
        go_wp2
        go_ret
        exact ⟨rfl, hbel⟩
end Go.Proofs.YthoilicolakofaaDoor
