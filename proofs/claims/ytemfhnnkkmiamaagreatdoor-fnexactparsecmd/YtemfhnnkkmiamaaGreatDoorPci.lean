import Derived.Test.YtemfhnnkkmiamaaGreatDoorPch
namespace Go.Proofs.YtemfhnnkkmiamaaGreatDoor
open Go.ChangeShapes Go.WideShapes Go.ChangeAt Go.RowKit
set_option linter.unusedVariables false
set_option linter.unusedSimpArgs false

def pcQ (W : List ByteArray) : Option Cm :=
  let q := fmF (gS W 0)
  let r := q.1.toNat
  let m := q.2.1.toNat
  let pth := pcPth W
  let val := q.2.2.2
  if q.1 < 0 ∨ (W.length : Int) ≠ 1 + q.1 + q.2.1 + pth + val then none
  else if pcOk W r m = false then none
  else if pth = 1 ∧ hasT (pcP W r pth) ⟨#[]⟩ = true then none
  else if val = 1 ∧ ((pcV W val).toList == []) = true then none
  else some ⟨gS W 0, (pcG W r (r + m)).getD 0 0, (pcG W r (r + m)).getD 1 0, (pcG W r (r + m)).getD 2 0, (pcG W r (r + m)).getD 3 0, pcP W r pth, pcV W val⟩
theorem pcS_Q (s : ByteArray) : pcS s = pcQ (cutW 32 s) := rfl
theorem two_eq (x y1 y2 : ByteArray) (hq : fmF x = (2, 0, 0, 0)) (hk : (x.toList == wKeys) = false) : pcQ [x, y1, y2] = fmR { Cm.no with w := x } [0, 1] [y1, y2] := by
  have g0 : gS [x, y1, y2] 0 = x := rfl
  have hp : pcPth [x, y1, y2] = 0 := by unfold pcPth; rw [g0, hk, hq]; rfl
  unfold pcQ
  simp only []
  rw [hp, g0, hq]
  have l0 := dec_lo y1 1
  have u0 := dec_hi y1 1 (by omega)
  have l1 := dec_lo y2 1
  have u1 := dec_hi y2 1 (by omega)
  by_cases h0 : decF y1 1 < 0 ∨ decF y1 1 > 7
  · have e1 : fmR { Cm.no with w := x } [0, 1] [y1, y2] = none := by simp [fmR, wdR, num_none h0]
    have e2 : pcOk [x, y1, y2] 2 0 = false := by
      simp [pcOk, pcBad, pcN, pcK, gS, List.range, List.range.loop]
      omega
    rw [e1]
    simp [e2]
  · by_cases h1 : decF y2 1 < 0 ∨ decF y2 1 > 7
    · have e1 : fmR { Cm.no with w := x } [0, 1] [y1, y2] = none := by simp [fmR, wdR, num_none h1, num_some (s := y1) (d := 1) (most := 7) (by omega) (by omega)]
      have e2 : pcOk [x, y1, y2] 2 0 = false := by
        simp [pcOk, pcBad, pcN, pcK, gS, List.range, List.range.loop]
        omega
      rw [e1]
      simp [e2]
    · have e2 : pcOk [x, y1, y2] 2 0 = true := by
        simp [pcOk, pcBad, pcN, pcK, gS, List.range, List.range.loop]
        omega
      have e1 : fmR { Cm.no with w := x } [0, 1] [y1, y2] = some ⟨x, decF y1 1, decF y2 1, 0, 0, [], ⟨#[]⟩⟩ := by simp [fmR, wdR, Cm.no, num_some (s := y1) (d := 1) (most := 7) (by omega) (by omega), num_some (s := y2) (d := 1) (most := 7) (by omega) (by omega)]
      rw [e1]
      simp [e2, pcG, pcK, pcN, pcP, pcV, gS]
theorem one_eq (x y1 : ByteArray) (hq : fmF x = (1, 0, 0, 0)) (hk : (x.toList == wKeys) = false) : pcQ [x, y1] = fmR { Cm.no with w := x } [0] [y1] := by
  have g0 : gS [x, y1] 0 = x := rfl
  have hp : pcPth [x, y1] = 0 := by unfold pcPth; rw [g0, hk, hq]; rfl
  unfold pcQ
  simp only []
  rw [hp, g0, hq]
  have l0 := dec_lo y1 1
  have u0 := dec_hi y1 1 (by omega)
  by_cases h0 : decF y1 1 < 0 ∨ decF y1 1 > 7
  · have e1 : fmR { Cm.no with w := x } [0] [y1] = none := by simp [fmR, wdR, num_none h0]
    have e2 : pcOk [x, y1] 1 0 = false := by
      simp [pcOk, pcBad, pcN, pcK, gS, List.range, List.range.loop]
      omega
    rw [e1]
    simp [e2]
  · have e2 : pcOk [x, y1] 1 0 = true := by
      simp [pcOk, pcBad, pcN, pcK, gS, List.range, List.range.loop]
      omega
    have e1 : fmR { Cm.no with w := x } [0] [y1] = some ⟨x, decF y1 1, 0, 0, 0, [], ⟨#[]⟩⟩ := by simp [fmR, wdR, Cm.no, num_some (s := y1) (d := 1) (most := 7) (by omega) (by omega)]
    rw [e1]
    simp [e2, pcG, pcK, pcN, pcP, pcV, gS]
theorem del_eq (x y1 y2 y3 : ByteArray) (hq : fmF x = (2, 1, 0, 0)) (hk : (x.toList == wKeys) = false) : pcQ [x, y1, y2, y3] = fmR { Cm.no with w := x } [0, 1, 2] [y1, y2, y3] := by
  have g0 : gS [x, y1, y2, y3] 0 = x := rfl
  have hp : pcPth [x, y1, y2, y3] = 0 := by unfold pcPth; rw [g0, hk, hq]; rfl
  unfold pcQ
  simp only []
  rw [hp, g0, hq]
  have l0 := dec_lo y1 1
  have u0 := dec_hi y1 1 (by omega)
  have l1 := dec_lo y2 1
  have u1 := dec_hi y2 1 (by omega)
  have l2 := dec_lo y3 5
  have u2 := dec_hi y3 5 (by omega)
  by_cases h0 : decF y1 1 < 0 ∨ decF y1 1 > 7
  · have e1 : fmR { Cm.no with w := x } [0, 1, 2] [y1, y2, y3] = none := by simp [fmR, wdR, num_none h0]
    have e2 : pcOk [x, y1, y2, y3] 2 1 = false := by
      simp [pcOk, pcBad, pcN, pcK, gS, List.range, List.range.loop]
      omega
    rw [e1]
    simp [e2]
  · by_cases h1 : decF y2 1 < 0 ∨ decF y2 1 > 7
    · have e1 : fmR { Cm.no with w := x } [0, 1, 2] [y1, y2, y3] = none := by simp [fmR, wdR, num_none h1, num_some (s := y1) (d := 1) (most := 7) (by omega) (by omega)]
      have e2 : pcOk [x, y1, y2, y3] 2 1 = false := by
        simp [pcOk, pcBad, pcN, pcK, gS, List.range, List.range.loop]
        omega
      rw [e1]
      simp [e2]
    · by_cases h2 : decF y3 5 < 0 ∨ decF y3 5 > 99999
      · have e1 : fmR { Cm.no with w := x } [0, 1, 2] [y1, y2, y3] = none := by simp [fmR, wdR, num_none h2, num_some (s := y1) (d := 1) (most := 7) (by omega) (by omega), num_some (s := y2) (d := 1) (most := 7) (by omega) (by omega)]
        have e2 : pcOk [x, y1, y2, y3] 2 1 = false := by
          simp [pcOk, pcBad, pcN, pcK, gS, List.range, List.range.loop]
          omega
        rw [e1]
        simp [e2]
      · have e2 : pcOk [x, y1, y2, y3] 2 1 = true := by
          simp [pcOk, pcBad, pcN, pcK, gS, List.range, List.range.loop]
          omega
        have e1 : fmR { Cm.no with w := x } [0, 1, 2] [y1, y2, y3] = some ⟨x, decF y1 1, decF y2 1, decF y3 5, 0, [], ⟨#[]⟩⟩ := by simp [fmR, wdR, Cm.no, num_some (s := y1) (d := 1) (most := 7) (by omega) (by omega), num_some (s := y2) (d := 1) (most := 7) (by omega) (by omega), num_some (s := y3) (d := 5) (most := 99999) (by omega) (by omega)]
        rw [e1]
        simp [e2, pcG, pcK, pcN, pcP, pcV, gS]
theorem flp_eq (x y1 y2 y3 y4 : ByteArray) (hq : fmF x = (2, 2, 0, 0)) (hk : (x.toList == wKeys) = false) : pcQ [x, y1, y2, y3, y4] = fmR { Cm.no with w := x } [0, 1, 2, 3] [y1, y2, y3, y4] := by
  have g0 : gS [x, y1, y2, y3, y4] 0 = x := rfl
  have hp : pcPth [x, y1, y2, y3, y4] = 0 := by unfold pcPth; rw [g0, hk, hq]; rfl
  unfold pcQ
  simp only []
  rw [hp, g0, hq]
  have l0 := dec_lo y1 1
  have u0 := dec_hi y1 1 (by omega)
  have l1 := dec_lo y2 1
  have u1 := dec_hi y2 1 (by omega)
  have l2 := dec_lo y3 5
  have u2 := dec_hi y3 5 (by omega)
  have l3 := dec_lo y4 5
  have u3 := dec_hi y4 5 (by omega)
  by_cases h0 : decF y1 1 < 0 ∨ decF y1 1 > 7
  · have e1 : fmR { Cm.no with w := x } [0, 1, 2, 3] [y1, y2, y3, y4] = none := by simp [fmR, wdR, num_none h0]
    have e2 : pcOk [x, y1, y2, y3, y4] 2 2 = false := by
      simp [pcOk, pcBad, pcN, pcK, gS, List.range, List.range.loop]
      omega
    rw [e1]
    simp [e2]
  · by_cases h1 : decF y2 1 < 0 ∨ decF y2 1 > 7
    · have e1 : fmR { Cm.no with w := x } [0, 1, 2, 3] [y1, y2, y3, y4] = none := by simp [fmR, wdR, num_none h1, num_some (s := y1) (d := 1) (most := 7) (by omega) (by omega)]
      have e2 : pcOk [x, y1, y2, y3, y4] 2 2 = false := by
        simp [pcOk, pcBad, pcN, pcK, gS, List.range, List.range.loop]
        omega
      rw [e1]
      simp [e2]
    · by_cases h2 : decF y3 5 < 0 ∨ decF y3 5 > 99999
      · have e1 : fmR { Cm.no with w := x } [0, 1, 2, 3] [y1, y2, y3, y4] = none := by simp [fmR, wdR, num_none h2, num_some (s := y1) (d := 1) (most := 7) (by omega) (by omega), num_some (s := y2) (d := 1) (most := 7) (by omega) (by omega)]
        have e2 : pcOk [x, y1, y2, y3, y4] 2 2 = false := by
          simp [pcOk, pcBad, pcN, pcK, gS, List.range, List.range.loop]
          omega
        rw [e1]
        simp [e2]
      · by_cases h3 : decF y4 5 < 0 ∨ decF y4 5 > 255
        · have e1 : fmR { Cm.no with w := x } [0, 1, 2, 3] [y1, y2, y3, y4] = none := by simp [fmR, wdR, num_none h3, num_some (s := y1) (d := 1) (most := 7) (by omega) (by omega), num_some (s := y2) (d := 1) (most := 7) (by omega) (by omega), num_some (s := y3) (d := 5) (most := 99999) (by omega) (by omega)]
          have e2 : pcOk [x, y1, y2, y3, y4] 2 2 = false := by
            simp [pcOk, pcBad, pcN, pcK, gS, List.range, List.range.loop]
            omega
          rw [e1]
          simp [e2]
        · have e2 : pcOk [x, y1, y2, y3, y4] 2 2 = true := by
            simp [pcOk, pcBad, pcN, pcK, gS, List.range, List.range.loop]
            omega
          have e1 : fmR { Cm.no with w := x } [0, 1, 2, 3] [y1, y2, y3, y4] = some ⟨x, decF y1 1, decF y2 1, decF y3 5, decF y4 5, [], ⟨#[]⟩⟩ := by simp [fmR, wdR, Cm.no, num_some (s := y1) (d := 1) (most := 7) (by omega) (by omega), num_some (s := y2) (d := 1) (most := 7) (by omega) (by omega), num_some (s := y3) (d := 5) (most := 99999) (by omega) (by omega), num_some (s := y4) (d := 5) (most := 255) (by omega) (by omega)]
          rw [e1]
          simp [e2, pcG, pcK, pcN, pcP, pcV, gS]
theorem pth_eq (x y1 y2 : ByteArray) (hq : fmF x = (1, 0, 1, 0)) (hk : (x.toList == wKeys) = false) : pcQ [x, y1, y2] = fmR { Cm.no with w := x } [0, 4] [y1, y2] := by
  have g0 : gS [x, y1, y2] 0 = x := rfl
  have hp : pcPth [x, y1, y2] = 1 := by unfold pcPth; rw [g0, hk, hq]; rfl
  unfold pcQ
  simp only []
  rw [hp, g0, hq]
  have l0 := dec_lo y1 1
  have u0 := dec_hi y1 1 (by omega)
  by_cases h0 : decF y1 1 < 0 ∨ decF y1 1 > 7
  · have e1 : fmR { Cm.no with w := x } [0, 4] [y1, y2] = none := by simp [fmR, wdR, num_none h0]
    have e2 : pcOk [x, y1, y2] 1 0 = false := by
      simp [pcOk, pcBad, pcN, pcK, gS, List.range, List.range.loop]
      omega
    rw [e1]
    simp [e2]
  · have e2 : pcOk [x, y1, y2] 1 0 = true := by
      simp [pcOk, pcBad, pcN, pcK, gS, List.range, List.range.loop]
      omega
    by_cases h1 : hasT (cutW 47 y2) ⟨#[]⟩ = true
    · have e1 : fmR { Cm.no with w := x } [0, 4] [y1, y2] = none := by simp [fmR, wdR, pthR, h1, num_some (s := y1) (d := 1) (most := 7) (by omega) (by omega)]
      rw [e1]
      simp [e2, pcP, gS, h1]
    · have h1' : hasT (cutW 47 y2) ⟨#[]⟩ = false := by simpa using h1
      have e1 : fmR { Cm.no with w := x } [0, 4] [y1, y2] = some ⟨x, decF y1 1, 0, 0, 0, cutW 47 y2, ⟨#[]⟩⟩ := by simp [fmR, wdR, Cm.no, num_some (s := y1) (d := 1) (most := 7) (by omega) (by omega), pthR, h1']
      rw [e1]
      simp [e2, pcG, pcK, pcN, pcP, pcV, gS, h1']
theorem put_eq (x y1 y2 y3 : ByteArray) (hq : fmF x = (1, 0, 1, 1)) (hk : (x.toList == wKeys) = false) : pcQ [x, y1, y2, y3] = fmR { Cm.no with w := x } [0, 4, 5] [y1, y2, y3] := by
  have g0 : gS [x, y1, y2, y3] 0 = x := rfl
  have hp : pcPth [x, y1, y2, y3] = 1 := by unfold pcPth; rw [g0, hk, hq]; rfl
  unfold pcQ
  simp only []
  rw [hp, g0, hq]
  have l0 := dec_lo y1 1
  have u0 := dec_hi y1 1 (by omega)
  by_cases h0 : decF y1 1 < 0 ∨ decF y1 1 > 7
  · have e1 : fmR { Cm.no with w := x } [0, 4, 5] [y1, y2, y3] = none := by simp [fmR, wdR, num_none h0]
    have e2 : pcOk [x, y1, y2, y3] 1 0 = false := by
      simp [pcOk, pcBad, pcN, pcK, gS, List.range, List.range.loop]
      omega
    rw [e1]
    simp [e2]
  · have e2 : pcOk [x, y1, y2, y3] 1 0 = true := by
      simp [pcOk, pcBad, pcN, pcK, gS, List.range, List.range.loop]
      omega
    by_cases h1 : hasT (cutW 47 y2) ⟨#[]⟩ = true
    · have e1 : fmR { Cm.no with w := x } [0, 4, 5] [y1, y2, y3] = none := by simp [fmR, wdR, pthR, h1, num_some (s := y1) (d := 1) (most := 7) (by omega) (by omega)]
      rw [e1]
      simp [e2, pcP, gS, h1]
    · have h1' : hasT (cutW 47 y2) ⟨#[]⟩ = false := by simpa using h1
      by_cases h2 : (y3.toList == []) = true
      · have e1 : fmR { Cm.no with w := x } [0, 4, 5] [y1, y2, y3] = none := by simp only [fmR, wdR, h2, num_some (s := y1) (d := 1) (most := 7) (by omega) (by omega), pthR, h1']; simp [h2]
        rw [e1]
        simp only [pcV, pcP]
        simp [e2, gS, h1']
        simpa using h2
      · have h2' : (y3.toList == []) = false := by simpa using h2
        have e1 : fmR { Cm.no with w := x } [0, 4, 5] [y1, y2, y3] = some ⟨x, decF y1 1, 0, 0, 0, cutW 47 y2, y3⟩ := by simp [fmR, wdR, Cm.no, num_some (s := y1) (d := 1) (most := 7) (by omega) (by omega), pthR, h1', h2']
        rw [e1]
        simp [e2, pcG, pcK, pcN, pcP, pcV, gS, h1', h2']
theorem key1_eq (x y1 : ByteArray) (hq : fmF x = (1, 0, 1, 0)) (hk : (x.toList == wKeys) = true) : pcQ [x, y1] = fmR { Cm.no with w := x } [0] [y1] := by
  have g0 : gS [x, y1] 0 = x := rfl
  have hp : pcPth [x, y1] = 0 := by unfold pcPth; rw [g0, hk, hq]; rfl
  unfold pcQ
  simp only []
  rw [hp, g0, hq]
  have l0 := dec_lo y1 1
  have u0 := dec_hi y1 1 (by omega)
  by_cases h0 : decF y1 1 < 0 ∨ decF y1 1 > 7
  · have e1 : fmR { Cm.no with w := x } [0] [y1] = none := by simp [fmR, wdR, num_none h0]
    have e2 : pcOk [x, y1] 1 0 = false := by
      simp [pcOk, pcBad, pcN, pcK, gS, List.range, List.range.loop]
      omega
    rw [e1]
    simp [e2]
  · have e2 : pcOk [x, y1] 1 0 = true := by
      simp [pcOk, pcBad, pcN, pcK, gS, List.range, List.range.loop]
      omega
    have e1 : fmR { Cm.no with w := x } [0] [y1] = some ⟨x, decF y1 1, 0, 0, 0, [], ⟨#[]⟩⟩ := by simp [fmR, wdR, Cm.no, num_some (s := y1) (d := 1) (most := 7) (by omega) (by omega)]
    rw [e1]
    simp [e2, pcG, pcK, pcN, pcP, pcV, gS]
theorem key2_eq (x y1 y2 : ByteArray) (hq : fmF x = (1, 0, 1, 0)) (hk : (x.toList == wKeys) = true) : pcQ [x, y1, y2] = fmR { Cm.no with w := x } [0, 4] [y1, y2] := by
  have g0 : gS [x, y1, y2] 0 = x := rfl
  have hp : pcPth [x, y1, y2] = 1 := by unfold pcPth; rw [g0, hk, hq]; rfl
  unfold pcQ
  simp only []
  rw [hp, g0, hq]
  have l0 := dec_lo y1 1
  have u0 := dec_hi y1 1 (by omega)
  by_cases h0 : decF y1 1 < 0 ∨ decF y1 1 > 7
  · have e1 : fmR { Cm.no with w := x } [0, 4] [y1, y2] = none := by simp [fmR, wdR, num_none h0]
    have e2 : pcOk [x, y1, y2] 1 0 = false := by
      simp [pcOk, pcBad, pcN, pcK, gS, List.range, List.range.loop]
      omega
    rw [e1]
    simp [e2]
  · have e2 : pcOk [x, y1, y2] 1 0 = true := by
      simp [pcOk, pcBad, pcN, pcK, gS, List.range, List.range.loop]
      omega
    by_cases h1 : hasT (cutW 47 y2) ⟨#[]⟩ = true
    · have e1 : fmR { Cm.no with w := x } [0, 4] [y1, y2] = none := by simp [fmR, wdR, pthR, h1, num_some (s := y1) (d := 1) (most := 7) (by omega) (by omega)]
      rw [e1]
      simp [e2, pcP, gS, h1]
    · have h1' : hasT (cutW 47 y2) ⟨#[]⟩ = false := by simpa using h1
      have e1 : fmR { Cm.no with w := x } [0, 4] [y1, y2] = some ⟨x, decF y1 1, 0, 0, 0, cutW 47 y2, ⟨#[]⟩⟩ := by simp [fmR, wdR, Cm.no, num_some (s := y1) (d := 1) (most := 7) (by omega) (by omega), pthR, h1']
      rw [e1]
      simp [e2, pcG, pcK, pcN, pcP, pcV, gS, h1']
end Go.Proofs.YtemfhnnkkmiamaaGreatDoor
