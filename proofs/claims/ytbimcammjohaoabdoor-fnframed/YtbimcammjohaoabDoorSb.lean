import Derived.Test.YtbimcammjohaoabDoorRd4
import Derived.Test.YtbimcammjohaoabDoorFp
import Derived.Test.YtbimcammjohaoabDoorFl
namespace Go.Proofs.YtbimcammjohaoabDoor
open Go.ChangeShapes Go.WideShapes Go.ChangeAt Go.RowKit
set_option linter.unusedVariables false
set_option linter.unusedSimpArgs false

def RdX (w : World) (B rb n x : Nat) : Prop := ∃ (a : Option Addr) (c : Nat) (f : Nat → Int), Cur w rb a n c (x : Int) ∧ Seg w a n f ∧ Byt f ∧ n ≤ 1000 ∧ x ≤ n ∧ (0 < n → ∀ y, a = some y → y.block ≠ rb ∧ y.block < B) ∧ rb < B
theorem Rd.x {w : World} {B rb : Nat} (h : Rd w B rb) : ∃ n x, RdX w B rb n x := by
  obtain ⟨a, n, c, f, x, r⟩ := h
  exact ⟨n, x, a, c, f, r⟩
theorem RdX.rd {w : World} {B rb n x : Nat} (h : RdX w B rb n x) : Rd w B rb := by
  obtain ⟨a, c, f, r⟩ := h
  exact ⟨a, n, c, f, x, r⟩
theorem RdX.below {w w' : World} {B rb n x : Nat} (h : RdX w B rb n x) (hb : Below B w w') : RdX w' B rb n x := by
  obtain ⟨a, c, f, hc, hs, hf, hn, hx, hne, hB⟩ := h
  refine ⟨a, c, f, hc.below hb hB, ?_, hf, hn, hx, hne, hB⟩
  rcases hs with hs | ⟨b, off, e, hlt, hcell⟩
  · exact .inl hs
  · by_cases h0 : 0 < n
    · exact .inr ⟨b, off, e, Nat.lt_of_lt_of_le hlt hb.size, fun i hi => (hb.cell (p := ⟨b, off + i, none⟩) (show b < B from (hne h0 _ e).2)).trans (hcell i hi)⟩
    · exact .inl (by omega)
theorem RdX.le {w : World} {B rb n x : Nat} (h : RdX w B rb n x) : x ≤ n ∧ n ≤ 1000 := by
  obtain ⟨_, _, _, _, _, _, h1, h2, _⟩ := h
  exact ⟨h2, h1⟩

set_option maxRecDepth 100000 in
set_option maxHeartbeats 1000000 in
theorem rdNextX (B rb n x : Nat) (w : World) (h : RdX w B rb n x) :
    Calls Tryd.prog 10 #[.pointer (some ⟨rb, 0, none⟩)] w fun e w' => ∃ k : Nat, k < 256 ∧ e = .returned (.int .i64 (k : Int)) ∧ ((x < n ∧ RdX w' B rb n (x + 1)) ∨ (n ≤ x ∧ RdX w' B rb n x)) ∧ w.grownBy w' (some rb) := by
  obtain ⟨a, c, f, hcur, hs, hf, hn, hx, hne, hBr⟩ := h
  have HC := hid hcur
  have HS := hid hs
  have HF := hid hf
  obtain ⟨k0, k1, k2⟩ := hcur
  by_cases hxn : x < n
  · rcases hs with hs | ⟨b, off, rfl, hb, hc⟩
    · omega
    obtain ⟨z, hz⟩ : ∃ z : Nat, f x = (z : Int) := ⟨(f x).toNat, by have := (hf x).1; omega⟩
    have hz8 : z < 256 := by have := (hf x).2; omega
    have hcx : w.cell? ⟨b, off + x, none⟩ = some (.int .u8 (z : Int)) := by rw [hc x hxn, hz]
    have hbr : b ≠ rb := (hne (by omega) _ rfl).1
    have hx0 : (0 : Int) ≤ (x : Int) := Int.natCast_nonneg _
    have hx1 : (x : Int) < (n : Int) := by omega
    have hwz : IntKind.i64.wrap (z : Int) = (z : Int) := wrapIn _ (by omega) (by omega)
    clear hz hc hf
    go_enter Tryd.func10, Tryd.ntmps10
    go_wp2_with fail
    go_quiet (fail)
    go_wp2_with fail
    go_quiet (fail)
    go_wp2_with fail
    go_ret
    refine ⟨z, hz8, rfl, .inl ⟨hxn, _, c, f, ?_, ?_, HF.out, hn, hxn, hne, hBr⟩, ?_⟩
    · first | exact HC.out.set _ | (simp; exact HC.out.set _)
    · rcases HS.out with h0 | ⟨b1, o1, e1, hb1, hc1⟩
      · exact .inl h0
      · have e2 := e1
        injection e1 with e1
        injection e1 with e1 _ _
        subst e1
        exact .inr ⟨_, o1, e2, by simpa [World.setCell] using hb1, fun i hi => by
          try simp only [World.drewN_drewN]
          rw [World.cell?_setCell_far _ _ _ _ (by simp; omega)]
          exact hc1 i hi⟩
    · first | exact grown_set (grown_drewN _ _ _) _ | (simp; exact grown_set (grown_drewN _ _ _) _)
  · have hd : decide ((x : Int) < (n : Int)) = false := by simp; omega
    go_enter Tryd.func10, Tryd.ntmps10
    go_wp2_with fail
    go_quiet (fail)
    go_wp2_with fail
    go_ret
    exact ⟨0, by omega, rfl, .inr ⟨by omega, a, c, f, HC.out, HS.out, HF.out, hn, hx, hne, hBr⟩, grown_drewN _ _ _⟩

set_option maxRecDepth 100000 in
set_option maxHeartbeats 1000000 in
theorem rdBytesN (B rb n : Nat) (w : World) (h : Rd w B rb) (hn : n ≤ 1000) (hB : B ≤ w.heap.size) :
    Calls Tryd.prog 22 #[.pointer (some ⟨rb, 0, none⟩), .int .i64 (n : Int)] w fun e w' => ∃ v zs, e = .returned v ∧ zs.length = n ∧ v.ownBlock ≠ none ∧ Bys w' w.heap.size v zs ∧ Rd w' B rb ∧ w.grownBy w' (some rb) := by
  obtain ⟨i0, hi, hz0, hz1, hz2⟩ := info_parts Tryd.infoByte
  have hrb := h.lt
  have HR := hid h
  have HE := hid (rowE w w.heap.size (Nat.le_refl _))
  have HG0 := hid (World.grownBy_alloc w (.cells #[] 5) (some rb))
  have HR0 := hid (h.below (((Below.refl B w).alloc hB (.cells #[] 5))))
  clear h
  go_enter Tryd.func22, Tryd.ntmps22
  go_wp2_with fail
  go_loopw [5, 6] (fun b i wr => ∃ (j : Nat) (zs : List Int), j ≤ n ∧ zs.length = j ∧ i = .int .i64 (j : Int) ∧ Hid (b.ownBlock ≠ none) ∧ Hid (Own wr w.heap.size b zs) ∧ Hid (∀ z ∈ zs, 0 ≤ z ∧ z < 256) ∧ Hid (Rd wr B rb) ∧ Hid (w.grownBy wr (some rb))) (fun _ i _ => n - (intOf i).toNat)
  case atStart => exact ⟨0, [], Nat.zero_le _, rfl, rfl, hid (by simp [Value.ownBlock]), HE, hid (fun z hz => by cases hz), HR0, HG0⟩
  case round =>
    clear HE HR0 HG0 HR
    obtain ⟨j, zs, hj, hzl, rfl, hnn, ho, hby, hr, hg⟩ := hrel
    have zg := hg.out.size
    by_cases hlt : j < n
    · go_wp2_with fail
      refine (rdNext B rb _ hr.out).mono ?_
      rintro e w1 ⟨k, hk, rfl, r1, g1⟩
      have hown1 : w1.ownsRow w.heap.size 5 1 u5 zs.length (zs.map (Value.int .u8)) := World.ownsRow.kept ho.out g1 (by
        cases e : u5.ownBlock with
        | none => exact .inl rfl
        | some g => exact .inr (by have := (World.ownsRow.lt ho.out g e).1; intro h1; injection h1 with h1; omega))
      have HR1 := hid r1
      have HG1 := hid (grown_trans hg.out g1)
      have z1 := g1.size
      clear r1 g1 ho hr hg
      have hwk : IntKind.u8.wrap (k : Int) = (k : Int) := by rw [IntKind.wrap_u8]; omega
      go_wp2_with (at_builtin; refine wpList_app_at rfl _ _ 22 rfl w.heap.size 5 i0 (.int .u8 0) 1 1 Tryd.underlying22 hi hz0 hz1 hz2 rfl (by decide) _ _ _ rfl (hown1.alloc _) ⟨w1.heap.size, 0, none⟩ 1 1 [.int .u8 (k : Int)] rfl rfl ?c1 ?c2 ?c3 ?c4 ?c5 ?_)
      case c1 => exact cell_one_new _ _ _
      case c2 => intro u hu; simp at hu; subst hu; rfl
      case c3 => unfold maxLen; omega
      case c4 => omega
      case c5 => simp; omega
      · intro v' w2 hown' hgr hob
        have R : Hid (Own w2 w.heap.size v' (zs ++ [(k : Int)])) := by
          show Own _ _ _ _
          unfold Own
          rw [List.length_append, List.map_append]
          try rw [hzl]
          exact hown'
        have RB : Hid (Below w.heap.size w1 w2) := ((Below.refl _ _).alloc (by omega) _).grown hgr (by simp; omega) (fun k hk => (hown1.lt k hk).1)
        have HR2 := hid (HR1.out.below (RB.out.mono hB))
        have HG2 : Hid (w.grownBy w2 (some rb)) := ⟨RB.out.os.trans HG1.out.os, RB.out.tape.trans HG1.out.tape, RB.out.output.trans HG1.out.output, Nat.le_trans HG1.out.size RB.out.size, fun k hk hne => (RB.out.block k hk).trans (HG1.out.block k hk hne)⟩
        have HBy : Hid (∀ z ∈ zs ++ [(k : Int)], 0 ≤ z ∧ z < 256) := fun z hz => by
          rcases List.mem_append.1 hz with h | h
          · exact hby.out z h
          · simp at h; subst h; omega
        have HNN : Hid (v'.ownBlock ≠ none) := hid (by
          rcases hob with e | e
          · rw [e]; exact hnn.out
          · rw [e]; simp)
        clear hown' hgr hob RB hown1 HR1 HG1
        go_wp2_with fail
        go_roundw
        case rel => exact ⟨j + 1, zs ++ [(k : Int)], hlt, by simp; omega, by go_num, HNN, R, HBy, HR2, HG2⟩
        case measure => simp [intOf]; omega
    · obtain rfl : j = n := by omega
      go_wp2_with fail
      go_ret
      exact ⟨_, zs, rfl, hzl, hnn.out, ⟨ho.out, hby.out⟩, hr.out, hg.out⟩

theorem own_nn {w : World} {B : Nat} {v : Value} {zs : List Int} (h : Own w B v zs) (hn : v.ownBlock ≠ none) : ∃ g cap, v = .slice (some ⟨g, 0, none⟩) zs.length cap ∧ B ≤ g ∧ g < w.heap.size ∧ Seg w (some ⟨g, 0, none⟩) zs.length (gz zs) := by
  obtain ⟨g, cap, rfl, hB, _, _, sb⟩ := own_some h hn
  exact ⟨g, cap, rfl, hB, (World.ownsRow.lt h g rfl).2, sb.seg⟩

set_option maxRecDepth 100000 in
set_option maxHeartbeats 1000000 in
theorem drawFrameC (B rb : Nat) (w : World) (h : Rd w B rb) (hB : B ≤ w.heap.size) :
    Calls Tryd.prog 11 #[.pointer (some ⟨rb, 0, none⟩)] w fun e w' => ∃ (kd : Int) (g cp : Nat) (zs : List Int), e = .returned (.agg #[.int .i64 kd, .slice (some ⟨g, 0, none⟩) zs.length cp]) ∧ 1 ≤ kd ∧ kd ≤ 3 ∧ zs.length ≤ 135 ∧ Byt (gz zs) ∧ Seg w' (some ⟨g, 0, none⟩) zs.length (gz zs) ∧ Rd w' B rb ∧ w.grownBy w' (some rb) ∧ Own w' w.heap.size (.slice (some ⟨g, 0, none⟩) zs.length cp) zs := by
  obtain ⟨W, hW⟩ : ∃ W, w.alloc (.cells #[.int .i64 0, .slice none 0 0] 29) = W := ⟨_, rfl⟩
  have bW : Below w.heap.size w W := by rw [← hW]; exact (Below.refl _ _).alloc (Nat.le_refl _) _
  have k0 : W.cell? ⟨w.heap.size, 0, none⟩ = some (.int .i64 0) := by rw [← hW]; simp
  have k1 : W.cell? ⟨w.heap.size, 1, none⟩ = some (.slice none 0 0) := by rw [← hW]; simp
  have f0 : W.frozen? ⟨w.heap.size, 0, none⟩ = false := by rw [← hW]; simp
  have f1 : W.frozen? ⟨w.heap.size, 1, none⟩ = false := by rw [← hW]; simp
  have zW : Hid (W.heap.size = w.heap.size + 1) := by rw [← hW]; exact hid (by simp)
  have HR := hid (h.below (bW.mono hB))
  have hrb := h.lt
  have HBW := hid bW
  clear h bW
  go_enter Tryd.func11, Tryd.ntmps11
  go_wp2_with fail
  try rw [hW]
  clear hW
  refine (rdNext B rb W HR.out).mono ?_
  rintro e w1 ⟨k, hk, rfl, r1, g1⟩
  have HR1 := hid r1
  have HG1 := hid g1
  have z1 := g1.size
  have nb : some w.heap.size ≠ some rb := fun e => by injection e with e; omega
  have cb := fun i => World.cell?_of_block (a := ⟨w.heap.size, i, none⟩) (g1.block w.heap.size (by have := zW.out; omega) nb)
  have fb := fun i => World.frozen?_of_block (a := ⟨w.heap.size, i, none⟩) (g1.block w.heap.size (by have := zW.out; omega) nb)
  have m0 := (cb 0).trans k0
  have m1 := (cb 1).trans k1
  have y0 := (fb 0).trans f0
  have y1 := (fb 1).trans f1
  clear r1 g1 cb fb k0 k1 f0 f1
  obtain ⟨kd, hkd⟩ : ∃ kd : Int, 1 + (k : Int) % 3 = kd := ⟨_, rfl⟩
  have hkd1 : 1 ≤ kd ∧ kd ≤ 3 := by omega
  have wkd : IntKind.i64.wrap (1 + (k : Int) % 3) = kd := by rw [IntKind.wrap_i64]; omega
  have HKD := hid hkd1
  have step : ∀ n : Nat, n ≤ 135 → Hid (∀ w1' : World, w1' = w1 → Calls Tryd.prog 22 #[.pointer (some ⟨rb, 0, none⟩), .int .i64 (n : Int)] w1' fun e w' => ∃ v zs, e = .returned v ∧ zs.length = n ∧ v.ownBlock ≠ none ∧ Bys w' w1'.heap.size v zs ∧ Rd w' B rb ∧ w1'.grownBy w' (some rb)) := fun n hn => hid (fun w1' e => by subst e; exact rdBytesN B rb n _ HR1.out (by omega) (by have := zW.out; omega))
  by_cases h240 : 240 ≤ k
  · obtain ⟨n, hn⟩ : ∃ n : Nat, 120 + (k : Int) % 16 = (n : Int) := ⟨120 + k % 16, by omega⟩
    have hn5 : n ≤ 135 := by omega
    have wn : IntKind.i64.wrap (120 + (k : Int) % 16) = (n : Int) := by rw [IntKind.wrap_i64]; omega
    have HS := step n hn5
    clear step hn hkd hkd1
    go_wp2_with fail
    refine (HS.out _ rfl).mono ?_
    rintro e w2 ⟨v, zs, rfl, hzl, hnn, hby, r2, g2⟩
    subst hzl
    obtain ⟨g, cp, rfl, hg1, hg2, sg⟩ := own_nn hby.1 hnn
    have HBY := hid (gz_byte hby.2)
    have cb := fun i => World.cell?_of_block (a := ⟨w.heap.size, i, none⟩) (g2.block w.heap.size (by have := zW.out; omega) nb)
    have fb := fun i => World.frozen?_of_block (a := ⟨w.heap.size, i, none⟩) (g2.block w.heap.size (by have := zW.out; omega) nb)
    have p0 := (cb 0).trans m0
    have p1 := (cb 1).trans m1
    have q0 := (fb 0).trans y0
    have q1 := (fb 1).trans y1
    have e01 := boxE (.int .i64 kd) (.slice (some ⟨g, 0, none⟩) zs.length cp) p0 p1
    have G1 := grownSetF w2 ⟨w.heap.size, 0, none⟩ (.int .i64 kd)
    have G2 := grownSetF (w2.setCell ⟨w.heap.size, 0, none⟩ (.int .i64 kd)) ⟨w.heap.size, 1, none⟩ (.slice (some ⟨g, 0, none⟩) zs.length cp)
    have zz : w.heap.size < g := by have := zW.out; omega
    have SG : Hid (Seg ((w2.setCell ⟨w.heap.size, 0, none⟩ (.int .i64 kd)).setCell ⟨w.heap.size, 1, none⟩ (.slice (some ⟨g, 0, none⟩) zs.length cp)) (some ⟨g, 0, none⟩) zs.length (gz zs)) := hid (by
      refine seg_keep (cap := cp) sg (Nat.le_trans G1.size G2.size) (fun b hb => ?_)
      simp [Value.ownBlock] at hb
      exact (G2.block b (Nat.lt_of_lt_of_le (by omega) G1.size) (by simp; omega)).trans (G1.block b (by omega) (by simp; omega)))
    have GG : Hid (w.grownBy ((w2.setCell ⟨w.heap.size, 0, none⟩ (.int .i64 kd)).setCell ⟨w.heap.size, 1, none⟩ (.slice (some ⟨g, 0, none⟩) zs.length cp)) (some rb)) := hid (by
      refine ⟨(g2.os.trans HG1.out.os).trans HBW.out.os, (g2.tape.trans HG1.out.tape).trans HBW.out.tape, (g2.output.trans HG1.out.output).trans HBW.out.output, by have := g2.size; have := HBW.out.size; have := G1.size; have := G2.size; omega, fun b hb hne => ?_⟩
      have h1 : b ≠ w.heap.size := by omega
      have hz := zW.out
      exact ((((G2.block b (by have := G1.size; have := g2.size; omega) (by simp; omega)).trans (G1.block b (by have := g2.size; omega) (by simp; omega))).trans (g2.block b (by omega) hne)).trans (HG1.out.block b (by omega) hne)).trans (HBW.out.block b hb))
    have OW : Hid (Own ((w2.setCell ⟨w.heap.size, 0, none⟩ (.int .i64 kd)).setCell ⟨w.heap.size, 1, none⟩ (.slice (some ⟨g, 0, none⟩) zs.length cp)) w.heap.size (.slice (some ⟨g, 0, none⟩) zs.length cp) zs) := hid (((own_weak hby.1 (by have := zW.out; omega)).gr G1 (fun g' e1 e2 => by simp [Value.ownBlock] at e1; injection e2 with e2; simp at e2; omega)).gr G2 (fun g' e1 e2 => by simp [Value.ownBlock] at e1; injection e2 with e2; simp at e2; omega))
    have RR : Hid (Rd ((w2.setCell ⟨w.heap.size, 0, none⟩ (.int .i64 kd)).setCell ⟨w.heap.size, 1, none⟩ (.slice (some ⟨g, 0, none⟩) zs.length cp)) B rb) := hid (r2.below (((Below.refl B w2).setCell (p := ⟨w.heap.size, 0, none⟩) hB _).setCell (p := ⟨w.heap.size, 1, none⟩) hB _))
    clear hby r2 g2 cb fb G1 G2 sg hnn HS m0 m1 y0 y1
    go_wp2_with fail
    obtain ⟨x0, x1⟩ := e01
    refine bodyPost_ret (v := .agg #[.int .i64 kd, .slice (some ⟨g, 0, none⟩) zs.length cp]) (by simp [results, Tryd.results11, go_sem, x0, x1]) rfl ?_
    exact ⟨kd, g, cp, zs, rfl, HKD.out.1, HKD.out.2, by omega, HBY.out, SG.out, RR.out, GG.out, OW.out⟩
  · obtain ⟨n, hn⟩ : ∃ n : Nat, (k : Int) / 4 % 12 = (n : Int) := ⟨k / 4 % 12, by omega⟩
    have hn5 : n ≤ 135 := by omega
    have h240' : decide ((240 : Int) ≤ (k : Int)) = false := by simp; omega
    have HS := step n hn5
    clear step hkd hkd1
    go_wp2_with fail
    refine (HS.out _ rfl).mono ?_
    rintro e w2 ⟨v, zs, rfl, hzl, hnn, hby, r2, g2⟩
    subst hzl
    obtain ⟨g, cp, rfl, hg1, hg2, sg⟩ := own_nn hby.1 hnn
    have HBY := hid (gz_byte hby.2)
    have cb := fun i => World.cell?_of_block (a := ⟨w.heap.size, i, none⟩) (g2.block w.heap.size (by have := zW.out; omega) nb)
    have fb := fun i => World.frozen?_of_block (a := ⟨w.heap.size, i, none⟩) (g2.block w.heap.size (by have := zW.out; omega) nb)
    have p0 := (cb 0).trans m0
    have p1 := (cb 1).trans m1
    have q0 := (fb 0).trans y0
    have q1 := (fb 1).trans y1
    have e01 := boxE (.int .i64 kd) (.slice (some ⟨g, 0, none⟩) zs.length cp) p0 p1
    have G1 := grownSetF w2 ⟨w.heap.size, 0, none⟩ (.int .i64 kd)
    have G2 := grownSetF (w2.setCell ⟨w.heap.size, 0, none⟩ (.int .i64 kd)) ⟨w.heap.size, 1, none⟩ (.slice (some ⟨g, 0, none⟩) zs.length cp)
    have zz : w.heap.size < g := by have := zW.out; omega
    have SG : Hid (Seg ((w2.setCell ⟨w.heap.size, 0, none⟩ (.int .i64 kd)).setCell ⟨w.heap.size, 1, none⟩ (.slice (some ⟨g, 0, none⟩) zs.length cp)) (some ⟨g, 0, none⟩) zs.length (gz zs)) := hid (by
      refine seg_keep (cap := cp) sg (Nat.le_trans G1.size G2.size) (fun b hb => ?_)
      simp [Value.ownBlock] at hb
      exact (G2.block b (Nat.lt_of_lt_of_le (by omega) G1.size) (by simp; omega)).trans (G1.block b (by omega) (by simp; omega)))
    have GG : Hid (w.grownBy ((w2.setCell ⟨w.heap.size, 0, none⟩ (.int .i64 kd)).setCell ⟨w.heap.size, 1, none⟩ (.slice (some ⟨g, 0, none⟩) zs.length cp)) (some rb)) := hid (by
      refine ⟨(g2.os.trans HG1.out.os).trans HBW.out.os, (g2.tape.trans HG1.out.tape).trans HBW.out.tape, (g2.output.trans HG1.out.output).trans HBW.out.output, by have := g2.size; have := HBW.out.size; have := G1.size; have := G2.size; omega, fun b hb hne => ?_⟩
      have h1 : b ≠ w.heap.size := by omega
      have hz := zW.out
      exact ((((G2.block b (by have := G1.size; have := g2.size; omega) (by simp; omega)).trans (G1.block b (by have := g2.size; omega) (by simp; omega))).trans (g2.block b (by omega) hne)).trans (HG1.out.block b (by omega) hne)).trans (HBW.out.block b hb))
    have OW : Hid (Own ((w2.setCell ⟨w.heap.size, 0, none⟩ (.int .i64 kd)).setCell ⟨w.heap.size, 1, none⟩ (.slice (some ⟨g, 0, none⟩) zs.length cp)) w.heap.size (.slice (some ⟨g, 0, none⟩) zs.length cp) zs) := hid (((own_weak hby.1 (by have := zW.out; omega)).gr G1 (fun g' e1 e2 => by simp [Value.ownBlock] at e1; injection e2 with e2; simp at e2; omega)).gr G2 (fun g' e1 e2 => by simp [Value.ownBlock] at e1; injection e2 with e2; simp at e2; omega))
    have RR : Hid (Rd ((w2.setCell ⟨w.heap.size, 0, none⟩ (.int .i64 kd)).setCell ⟨w.heap.size, 1, none⟩ (.slice (some ⟨g, 0, none⟩) zs.length cp)) B rb) := hid (r2.below (((Below.refl B w2).setCell (p := ⟨w.heap.size, 0, none⟩) hB _).setCell (p := ⟨w.heap.size, 1, none⟩) hB _))
    clear hby r2 g2 cb fb G1 G2 sg hnn HS m0 m1 y0 y1
    go_wp2_with fail
    obtain ⟨x0, x1⟩ := e01
    refine bodyPost_ret (v := .agg #[.int .i64 kd, .slice (some ⟨g, 0, none⟩) zs.length cp]) (by simp [results, Tryd.results11, go_sem, x0, x1]) rfl ?_
    exact ⟨kd, g, cp, zs, rfl, HKD.out.1, HKD.out.2, by omega, HBY.out, SG.out, RR.out, GG.out, OW.out⟩

theorem cells_gz (zs : List Int) : cells8 (gz zs) zs.length = zs.map (Value.int .u8) := by
  refine List.ext_getElem? (fun i => ?_)
  by_cases hi : i < zs.length
  · rw [cells8_get _ _ _ hi]; simp [gz, List.getD, hi]
  · rw [List.getElem?_eq_none (by simp [cells8]; omega), List.getElem?_eq_none (by simp; omega)]
theorem frB_byteB {k : Int} {f : Nat → Int} {n : Nat} (hf : Byt f) (h1 : 1 ≤ k) (h3 : k ≤ 3) (hn : n ≤ 4194304) : ∀ z ∈ frB k f n, 0 ≤ z ∧ z < 256 := by
  intro z hz
  have hp := preF_byte hf h1 h3 hn
  have hV := crc_u32 (gz_byte hp) (preF k f n).length
  unfold frB at hz
  rcases List.mem_append.1 hz with hz | hz
  · exact hp z hz
  · simp [sum4] at hz; omega
theorem frB_lenB (k : Int) (f : Nat → Int) (n : Nat) : (frB k f n).length ≤ n + 17 := by
  have := preF_len k f n
  unfold frB
  rw [List.length_append]
  simp [sum4]; omega

end Go.Proofs.YtbimcammjohaoabDoor
