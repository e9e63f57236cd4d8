import Derived.Test.YtbimcammjohaoacDoorGj
import Derived.Test.YtbimcammjohaoacDoorWv
namespace Go.Proofs.YtbimcammjohaoacDoor
open Go.ChangeShapes Go.WideShapes Go.ChangeAt Go.RowKit
set_option linter.unusedVariables false
set_option linter.unusedSimpArgs false

def Rd (w : World) (B rb : Nat) : Prop := ∃ (a : Option Addr) (n c : Nat) (f : Nat → Int) (x : Nat), Cur w rb a n c (x : Int) ∧ Seg w a n f ∧ Byt f ∧ n ≤ 1000 ∧ x ≤ n ∧ (0 < n → ∀ y, a = some y → y.block ≠ rb ∧ y.block < B) ∧ rb < B
theorem Rd.below {w w' : World} {B rb : Nat} (h : Rd w B rb) (hb : Below B w w') : Rd w' B rb := by
  obtain ⟨a, n, c, f, x, hc, hs, hf, hn, hx, hne, hB⟩ := h
  refine ⟨a, n, c, f, x, hc.below hb hB, ?_, hf, hn, hx, hne, hB⟩
  rcases hs with hs | ⟨b, off, e, hlt, hcell⟩
  · exact .inl hs
  · by_cases h0 : 0 < n
    · exact .inr ⟨b, off, e, Nat.lt_of_lt_of_le hlt hb.size, fun i hi => (hb.cell (p := ⟨b, off + i, none⟩) (show b < B from (hne h0 _ e).2)).trans (hcell i hi)⟩
    · exact .inl (by omega)
theorem Rd.lt {w : World} {B rb : Nat} (h : Rd w B rb) : rb < w.heap.size ∧ rb < B := by
  obtain ⟨a, n, c, f, x, hc, _, _, _, _, _, hB⟩ := h
  exact ⟨hc.lt, hB⟩

set_option maxRecDepth 100000 in
set_option maxHeartbeats 1000000 in
theorem rdNext (B rb : Nat) (w : World) (h : Rd w B rb) :
    Calls Tryd.prog 20 #[.pointer (some ⟨rb, 0, none⟩)] w fun e w' => ∃ k : Nat, k < 256 ∧ e = .returned (.int .i64 (k : Int)) ∧ Rd w' B rb ∧ w.grownBy w' (some rb) := by
  obtain ⟨a, n, c, f, x, hcur, hs, hf, hn, hx, hne, hBr⟩ := h
  have HC := hid hcur
  have HS := hid hs
  have HF := hid hf
  obtain ⟨k0, k1, k2⟩ := hcur
  by_cases hxn : x < n
  · rcases hs with hs | ⟨b, off, rfl, hb, hc⟩
    · omega
    obtain ⟨z, hz⟩ : ∃ z : Nat, f x = (z : Int) := ⟨(f x).toNat, by have := (hf x).1; omega⟩
    have hz8 : z < 256 := by have := (hf x).2; omega
    have hcx : w.cell? ⟨b, off + x, none⟩ = some (.int .u8 (z : Int)) := by rw [hc x hxn, hz]
    have hbr : b ≠ rb := (hne (by omega) _ rfl).1
    have hx0 : (0 : Int) ≤ (x : Int) := Int.natCast_nonneg _
    have hx1 : (x : Int) < (n : Int) := by omega
    have hwz : IntKind.i64.wrap (z : Int) = (z : Int) := wrapIn _ (by omega) (by omega)
    clear hz hc hf
    go_enter Tryd.func20, Tryd.ntmps20
    go_wp2_with fail
    go_quiet (fail)
    go_wp2_with fail
    go_quiet (fail)
    go_wp2_with fail
    go_ret
    refine ⟨z, hz8, rfl, ⟨_, n, c, f, x + 1, ?_, ?_, HF.out, hn, hxn, hne, hBr⟩, ?_⟩
    · first | exact HC.out.set _ | (simp; exact HC.out.set _)
    · rcases HS.out with h0 | ⟨b1, o1, e1, hb1, hc1⟩
      · exact .inl h0
      · have e2 := e1
        injection e1 with e1
        injection e1 with e1 _ _
        subst e1
        exact .inr ⟨_, o1, e2, by simpa [World.setCell] using hb1, fun i hi => by
          try simp only [World.drewN_drewN]
          rw [World.cell?_setCell_far _ _ _ _ (by simp; omega)]
          exact hc1 i hi⟩
    · first | exact grown_set (grown_drewN _ _ _) _ | (simp; exact grown_set (grown_drewN _ _ _) _)
  · have hd : decide ((x : Int) < (n : Int)) = false := by simp; omega
    go_enter Tryd.func20, Tryd.ntmps20
    go_wp2_with fail
    go_quiet (fail)
    go_wp2_with fail
    go_ret
    exact ⟨0, by omega, rfl, ⟨a, n, c, f, x, HC.out, HS.out, HF.out, hn, hx, hne, hBr⟩, grown_drewN _ _ _⟩

set_option maxRecDepth 100000 in
set_option maxHeartbeats 1000000 in
theorem rdOpen (a : Option Addr) (n c : Nat) (f : Nat → Int) (w : World) (hnc : n ≤ c) (hn : n ≤ 9223372036854775807) (h : Seg w a n f) (hf : Byt f) :
    Calls Tryd.prog 19 #[.slice a n c] w fun e w' => e = .returned (.pointer (some ⟨w.heap.size, 0, none⟩)) ∧ Rd w' (w.heap.size + 1) w.heap.size ∧ Below w.heap.size w w' := by
  have al := fun (o : Obj) => (Below.refl w.heap.size w).alloc (Nat.le_refl _) o
  have HA := hid al
  have HH := hid h
  have HF := hid hf
  clear al
  by_cases h1 : n ≤ 1000
  · clear h hf
    go_enter Tryd.func19, Tryd.ntmps19
    go_wp2_with fail
    go_ret
    refine ⟨rfl, ⟨a, n, c, f, 0, ⟨by simp, by simp, by simp⟩, HH.out.below (HA.out _), HF.out, h1, by omega, fun h0 y hy => ?_, by omega⟩, HA.out _⟩
    rcases HH.out with h2 | ⟨b, off, e, hb, _⟩
    · omega
    · rw [hy] at e; injection e with e; rw [e]; exact ⟨Nat.ne_of_lt hb, Nat.lt_succ_of_lt hb⟩
  · have h2 : 1000 < n := by omega
    rcases h with h | ⟨b, off, rfl, hb, hc⟩
    · omega
    clear hf hc
    go_enter Tryd.func19, Tryd.ntmps19
    go_wp2_with fail
    go_ret
    refine ⟨rfl, ⟨some ⟨b, off, none⟩, 1000, c, f, 0, ⟨by simp, by simp, by simp⟩, ?_, HF.out, by omega, by omega, fun h0 y hy => ?_, by omega⟩, HA.out _⟩
    · rcases (HH.out.below (HA.out _)) with h3 | ⟨b1, o1, e1, hb1, hc1⟩
      · omega
      · exact .inr ⟨b1, o1, e1, hb1, fun i hi => hc1 i (by omega)⟩
    · injection hy with hy; rw [← hy]; exact ⟨Nat.ne_of_lt hb, Nat.lt_succ_of_lt hb⟩

set_option maxRecDepth 100000 in
set_option maxHeartbeats 1000000 in
theorem rdNumber (B rb : Nat) (w : World) (h : Rd w B rb) :
    Calls Tryd.prog 18 #[.pointer (some ⟨rb, 0, none⟩)] w fun e w' => ∃ V : Nat, V < 18446744073709551616 ∧ e = .returned (.int .u64 (V : Int)) ∧ Rd w' B rb ∧ w.grownBy w' (some rb) := by
  have HR := hid h
  clear h
  go_enter Tryd.func18, Tryd.ntmps18
  go_wp2_with fail
  refine (rdNext B rb w HR.out).mono ?_
  rintro e w1 ⟨k, hk, rfl, r1, g1⟩
  have HR1 := hid r1
  have HG1 := hid g1
  clear r1 g1
  obtain ⟨q, hq⟩ : ∃ q : Nat, (k : Int) / 8 % 10 = (q : Int) := ⟨k / 8 % 10, by omega⟩
  have hq9 : q ≤ 9 := by omega
  go_wp2_with fail
  rw [hq]
  refine (l1Power q _ hq9).mono ?_
  rintro e w2 ⟨rfl, rfl⟩
  have hp1 : 0 < 128 ^ q := Nat.pow_pos (by omega)
  have hp2 := pow9 hq9
  obtain ⟨P, hP⟩ : ∃ P : Nat, P = 128 ^ q := ⟨_, rfl⟩
  rw [← hP] at hp1 hp2 ⊢
  clear hP hq
  by_cases h0 : k % 8 = 0
  · have e0 : (k : Int) % 8 = 0 := by omega
    go_wp2_with fail
    go_ret
    exact ⟨P, by omega, rfl, HR1.out, HG1.out⟩
  by_cases h1 : k % 8 = 1
  · have e0 : (k : Int) % 8 = 1 := by omega
    go_wp2_with fail
    go_ret
    exact ⟨P - 1, by omega, ret_int (by first | omega | (rw [IntKind.wrap_u64]; omega)), HR1.out, HG1.out⟩
  by_cases h2 : k % 8 = 2
  · have e0 : (k : Int) % 8 = 2 := by omega
    go_wp2_with fail
    go_ret
    exact ⟨18446744073709551615 - k / 128, by omega, ret_int (by first | omega | (rw [IntKind.wrap_u64]; omega) | (rw [IntKind.wrap_u64, IntKind.wrap_u64]; omega)), HR1.out, HG1.out⟩
  have n0 : ((k : Int) % 8 == 0) = false := by simp; omega
  have n1 : ((k : Int) % 8 == 1) = false := by simp; omega
  have n2 : ((k : Int) % 8 == 2) = false := by simp; omega
  clear h0 h1 h2
  go_wp2_with fail
  go_loopw [4, 5] (fun v i wr => ∃ (j x : Nat), j ≤ k % 8 ∧ x < 18446744073709551616 ∧ i = .int .i64 (j : Int) ∧ v = .int .u64 (x : Int) ∧ Hid (Rd wr B rb) ∧ Hid (w.grownBy wr (some rb))) (fun _ i _ => k % 8 - (intOf i).toNat)
  case atStart => exact ⟨0, 0, Nat.zero_le _, by omega, rfl, rfl, HR1, HG1⟩
  case round =>
    obtain ⟨j, x, hj, hx, rfl, rfl, hr, hg⟩ := hrel
    by_cases hjk : j < k % 8
    · have hjk' : (j : Int) < (k : Int) % 8 := by omega
      go_wp2_with fail
      refine (rdNext B rb _ hr.out).mono ?_
      rintro e w3 ⟨y, hy, rfl, r3, g3⟩
      have HR3 := hid r3
      have HG3 := hid (grown_trans hg.out g3)
      clear r3 g3
      obtain ⟨z, hz⟩ : ∃ z : Nat, IntKind.u64.wrap (IntKind.u64.wrap ((x : Int) * 256) + (y : Int)) = (z : Int) := ⟨(x * 256 % 18446744073709551616 + y) % 18446744073709551616, by rw [IntKind.wrap_u64, IntKind.wrap_u64]; omega⟩
      have hz64 : z < 18446744073709551616 := by rw [IntKind.wrap_u64] at hz; omega
      have hwy : IntKind.u64.wrap (y : Int) = (y : Int) := by rw [IntKind.wrap_u64]; omega
      go_wp2_with fail
      first
        | (go_roundw
           case rel => exact ⟨j + 1, z, by omega, hz64, by go_num, rfl, HR3, HG3⟩
           case measure => simp [intOf]; omega)
        | (refine ⟨⟨.int .u64 (z : Int), .int .i64 ((j : Int) + 1), _, _, _, _, _, _, _, _, _, _, _, _, ⟨j + 1, z, by omega, hz64, by go_num, rfl, HR3, HG3⟩, rfl⟩, ?_⟩
           simp [intOf]; omega)
    · have hjk' : ¬ (j : Int) < (k : Int) % 8 := by omega
      go_wp2_with fail
      go_ret
      exact ⟨x, hx, rfl, hr.out, hg.out⟩

theorem rdUv (a : Option Addr) (n c : Nat) (f : Nat → Int) (w : World) (hnc : n ≤ c) (hn : n ≤ 9223372036854775807) (h : Seg w a n f) (hf : Byt f) :
    Calls Tryd.prog 5 #[.slice a n c] w fun e w' => ∃ V : Nat, V < 18446744073709551616 ∧ e = .returned (.int .u64 (V : Int)) ∧ Below w.heap.size w w' := by
  have HO := hid (rdOpen a n c f w hnc hn h hf)
  clear h hf
  go_enter Tryd.func5, Tryd.ntmps5
  go_wp2_with fail
  refine HO.out.mono ?_
  rintro e w1 ⟨rfl, r1, b1⟩
  have HR := hid r1
  have HB := hid b1
  clear r1 b1
  go_wp2_with fail
  refine (rdNumber (w.heap.size + 1) w.heap.size _ HR.out).mono ?_
  rintro e w2 ⟨V, hV, rfl, r2, g2⟩
  have HB2 := hid (HB.out.grown g2 HB.out.size (fun k hk => by injection hk with hk; omega))
  clear r2 g2
  go_wp2_with fail
  go_ret
  exact ⟨V, hV, rfl, HB2.out⟩
end Go.Proofs.YtbimcammjohaoacDoor
