import Derived.Test.YthkppnmnjboiaaaDoorRd4
import Derived.Test.YthkppnmnjboiaaaDoorFp
import Derived.Test.YthkppnmnjboiaaaDoorFl
namespace Go.Proofs.YthkppnmnjboiaaaDoor
open Go.ChangeShapes Go.WideShapes Go.ChangeAt Go.RowKit
set_option linter.unusedVariables false
set_option linter.unusedSimpArgs false

def RdX (w : World) (B rb n x : Nat) : Prop := ∃ (a : Option Addr) (c : Nat) (f : Nat → Int), Cur w rb a n c (x : Int) ∧ Seg w a n f ∧ Byt f ∧ n ≤ 1000 ∧ x ≤ n ∧ (0 < n → ∀ y, a = some y → y.block ≠ rb ∧ y.block < B) ∧ rb < B
theorem Rd.x {w : World} {B rb : Nat} (h : Rd w B rb) : ∃ n x, RdX w B rb n x := by
  obtain ⟨a, n, c, f, x, r⟩ := h
  exact ⟨n, x, a, c, f, r⟩
theorem RdX.rd {w : World} {B rb n x : Nat} (h : RdX w B rb n x) : Rd w B rb := by
  obtain ⟨a, c, f, r⟩ := h
  exact ⟨a, n, c, f, x, r⟩
theorem RdX.below {w w' : World} {B rb n x : Nat} (h : RdX w B rb n x) (hb : Below B w w') : RdX w' B rb n x := by
  obtain ⟨a, c, f, hc, hs, hf, hn, hx, hne, hB⟩ := h
  refine ⟨a, c, f, hc.below hb hB, ?_, hf, hn, hx, hne, hB⟩
  rcases hs with hs | ⟨b, off, e, hlt, hcell⟩
  · exact .inl hs
  · by_cases h0 : 0 < n
    · exact .inr ⟨b, off, e, Nat.lt_of_lt_of_le hlt hb.size, fun i hi => (hb.cell (p := ⟨b, off + i, none⟩) (show b < B from (hne h0 _ e).2)).trans (hcell i hi)⟩
    · exact .inl (by omega)
theorem RdX.le {w : World} {B rb n x : Nat} (h : RdX w B rb n x) : x ≤ n ∧ n ≤ 1000 := by
  obtain ⟨_, _, _, _, _, _, h1, h2, _⟩ := h
  exact ⟨h2, h1⟩

set_option maxRecDepth 100000 in
set_option maxHeartbeats 1000000 in
theorem rdNextX (B rb n x : Nat) (w : World) (h : RdX w B rb n x) :
    Calls Tryd.prog 10 #[.pointer (some ⟨rb, 0, none⟩)] w fun e w' => ∃ k : Nat, k < 256 ∧ e = .returned (.int .i64 (k : Int)) ∧ ((x < n ∧ RdX w' B rb n (x + 1)) ∨ (n ≤ x ∧ RdX w' B rb n x)) ∧ w.grownBy w' (some rb) := by
  obtain ⟨a, c, f, hcur, hs, hf, hn, hx, hne, hBr⟩ := h
  have HC := hid hcur
  have HS := hid hs
  have HF := hid hf
  obtain ⟨k0, k1, k2⟩ := hcur
  by_cases hxn : x < n
  · rcases hs with hs | ⟨b, off, rfl, hb, hc⟩
    · omega
    obtain ⟨z, hz⟩ : ∃ z : Nat, f x = (z : Int) := ⟨(f x).toNat, by have := (hf x).1; omega⟩
    have hz8 : z < 256 := by have := (hf x).2; omega
    have hcx : w.cell? ⟨b, off + x, none⟩ = some (.int .u8 (z : Int)) := by rw [hc x hxn, hz]
    have hbr : b ≠ rb := (hne (by omega) _ rfl).1
    have hx0 : (0 : Int) ≤ (x : Int) := Int.natCast_nonneg _
    have hx1 : (x : Int) < (n : Int) := by omega
    have hwz : IntKind.i64.wrap (z : Int) = (z : Int) := wrapIn _ (by omega) (by omega)
    clear hz hc hf
    go_enter Tryd.func10, Tryd.ntmps10
    go_wp2_with fail
    go_quiet (fail)
    go_wp2_with fail
    go_quiet (fail)
    go_wp2_with fail
    go_ret
    refine ⟨z, hz8, rfl, .inl ⟨hxn, _, c, f, ?_, ?_, HF.out, hn, hxn, hne, hBr⟩, ?_⟩
    · first | exact HC.out.set _ | (simp; exact HC.out.set _)
    · rcases HS.out with h0 | ⟨b1, o1, e1, hb1, hc1⟩
      · exact .inl h0
      · have e2 := e1
        injection e1 with e1
        injection e1 with e1 _ _
        subst e1
        exact .inr ⟨_, o1, e2, by simpa [World.setCell] using hb1, fun i hi => by
          try simp only [World.drewN_drewN]
          rw [World.cell?_setCell_far _ _ _ _ (by simp; omega)]
          exact hc1 i hi⟩
    · first | exact grown_set (grown_drewN _ _ _) _ | (simp; exact grown_set (grown_drewN _ _ _) _)
  · have hd : decide ((x : Int) < (n : Int)) = false := by simp; omega
    go_enter Tryd.func10, Tryd.ntmps10
    go_wp2_with fail
    go_quiet (fail)
    go_wp2_with fail
    go_ret
    exact ⟨0, by omega, rfl, .inr ⟨by omega, a, c, f, HC.out, HS.out, HF.out, hn, hx, hne, hBr⟩, grown_drewN _ _ _⟩

set_option maxRecDepth 100000 in
set_option maxHeartbeats 1000000 in
theorem rdLeft (B rb n x : Nat) (w : World) (h : RdX w B rb n x) :
    Calls Tryd.prog 19 #[.pointer (some ⟨rb, 0, none⟩)] w fun e w' => e = .returned (.int .i64 ((n - x : Nat) : Int)) ∧ Below w.heap.size w w' := by
  have hle := h.le
  obtain ⟨a, c, f, hcur, hs, hf, hn, hx, hne, hBr⟩ := h
  obtain ⟨k0, k1, k2⟩ := hcur
  have ew : IntKind.i64.wrap ((n : Int) - (x : Int)) = ((n - x : Nat) : Int) := by rw [IntKind.wrap_i64]; omega
  obtain ⟨d, hd⟩ : ∃ d, n - x = d := ⟨_, rfl⟩
  rw [hd] at ew ⊢
  clear hd hs hf hne
  go_enter Tryd.func19, Tryd.ntmps19
  go_wp2_with fail
  go_quiet (fail)
  go_wp2_with fail
  go_ret
  exact ⟨rfl, below_drewN (Below.refl _ _) _⟩

set_option maxRecDepth 100000 in
set_option maxHeartbeats 1000000 in
theorem rdBytesN (B rb n : Nat) (w : World) (h : Rd w B rb) (hn : n ≤ 1000) (hB : B ≤ w.heap.size) :
    Calls Tryd.prog 28 #[.pointer (some ⟨rb, 0, none⟩), .int .i64 (n : Int)] w fun e w' => ∃ v zs, e = .returned v ∧ zs.length = n ∧ v.ownBlock ≠ none ∧ Bys w' w.heap.size v zs ∧ Rd w' B rb ∧ w.grownBy w' (some rb) := by
  obtain ⟨i0, hi, hz0, hz1, hz2⟩ := info_parts Tryd.infoByte
  have hrb := h.lt
  have HR := hid h
  have HE := hid (rowE w w.heap.size (Nat.le_refl _))
  have HG0 := hid (World.grownBy_alloc w (.cells #[] 5) (some rb))
  have HR0 := hid (h.below (((Below.refl B w).alloc hB (.cells #[] 5))))
  clear h
  go_enter Tryd.func28, Tryd.ntmps28
  go_wp2_with fail
  go_loopw [5, 6] (fun b i wr => ∃ (j : Nat) (zs : List Int), j ≤ n ∧ zs.length = j ∧ i = .int .i64 (j : Int) ∧ Hid (b.ownBlock ≠ none) ∧ Hid (Own wr w.heap.size b zs) ∧ Hid (∀ z ∈ zs, 0 ≤ z ∧ z < 256) ∧ Hid (Rd wr B rb) ∧ Hid (w.grownBy wr (some rb))) (fun _ i _ => n - (intOf i).toNat)
  case atStart => exact ⟨0, [], Nat.zero_le _, rfl, rfl, hid (by simp [Value.ownBlock]), HE, hid (fun z hz => by cases hz), HR0, HG0⟩
  case round =>
    clear HE HR0 HG0 HR
    obtain ⟨j, zs, hj, hzl, rfl, hnn, ho, hby, hr, hg⟩ := hrel
    have zg := hg.out.size
    by_cases hlt : j < n
    · go_wp2_with fail
      refine (rdNext B rb _ hr.out).mono ?_
      rintro e w1 ⟨k, hk, rfl, r1, g1⟩
      have hown1 : w1.ownsRow w.heap.size 5 1 u5 zs.length (zs.map (Value.int .u8)) := World.ownsRow.kept ho.out g1 (by
        cases e : u5.ownBlock with
        | none => exact .inl rfl
        | some g => exact .inr (by have := (World.ownsRow.lt ho.out g e).1; intro h1; injection h1 with h1; omega))
      have HR1 := hid r1
      have HG1 := hid (grown_trans hg.out g1)
      have z1 := g1.size
      clear r1 g1 ho hr hg
      have hwk : IntKind.u8.wrap (k : Int) = (k : Int) := by rw [IntKind.wrap_u8]; omega
      go_wp2_with (at_builtin; refine wpList_app_at rfl _ _ 22 rfl w.heap.size 5 i0 (.int .u8 0) 1 1 Tryd.underlying22 hi hz0 hz1 hz2 rfl (by decide) _ _ _ rfl (hown1.alloc _) ⟨w1.heap.size, 0, none⟩ 1 1 [.int .u8 (k : Int)] rfl rfl ?c1 ?c2 ?c3 ?c4 ?c5 ?_)
      case c1 => exact cell_one_new _ _ _
      case c2 => intro u hu; simp at hu; subst hu; rfl
      case c3 => unfold maxLen; omega
      case c4 => omega
      case c5 => simp; omega
      · intro v' w2 hown' hgr hob
        have R : Hid (Own w2 w.heap.size v' (zs ++ [(k : Int)])) := by
          show Own _ _ _ _
          unfold Own
          rw [List.length_append, List.map_append]
          try rw [hzl]
          exact hown'
        have RB : Hid (Below w.heap.size w1 w2) := ((Below.refl _ _).alloc (by omega) _).grown hgr (by simp; omega) (fun k hk => (hown1.lt k hk).1)
        have HR2 := hid (HR1.out.below (RB.out.mono hB))
        have HG2 : Hid (w.grownBy w2 (some rb)) := ⟨RB.out.os.trans HG1.out.os, RB.out.tape.trans HG1.out.tape, RB.out.output.trans HG1.out.output, Nat.le_trans HG1.out.size RB.out.size, fun k hk hne => (RB.out.block k hk).trans (HG1.out.block k hk hne)⟩
        have HBy : Hid (∀ z ∈ zs ++ [(k : Int)], 0 ≤ z ∧ z < 256) := fun z hz => by
          rcases List.mem_append.1 hz with h | h
          · exact hby.out z h
          · simp at h; subst h; omega
        have HNN : Hid (v'.ownBlock ≠ none) := hid (by
          rcases hob with e | e
          · rw [e]; exact hnn.out
          · rw [e]; simp)
        clear hown' hgr hob RB hown1 HR1 HG1
        go_wp2_with fail
        go_roundw
        case rel => exact ⟨j + 1, zs ++ [(k : Int)], hlt, by simp; omega, by go_num, HNN, R, HBy, HR2, HG2⟩
        case measure => simp [intOf]; omega
    · obtain rfl : j = n := by omega
      go_wp2_with fail
      go_ret
      exact ⟨_, zs, rfl, hzl, hnn.out, ⟨ho.out, hby.out⟩, hr.out, hg.out⟩

set_option maxRecDepth 100000 in
set_option maxHeartbeats 1000000 in
theorem rdRepeat4 (s : ByteArray) (n : Nat) (w : World) (hs : s.size ≤ 1) (hn : n ≤ 4000) :
    Calls Tryd.prog 13 #[.string s, .int .i64 (n : Int)] w fun e w' => ∃ t : ByteArray, t.size ≤ 4000 ∧ e = .returned (.string t) ∧ Below w.heap.size w w' := by
  obtain ⟨i0, hi, hz0, hz1, hz2⟩ := info_parts Tryd.infoByte
  have HE := hid (rowE w w.heap.size (Nat.le_refl _))
  have HB0 := hid ((Below.refl w.heap.size w).alloc (Nat.le_refl _) (.cells #[] 5))
  go_enter Tryd.func13, Tryd.ntmps13
  go_wp2_with fail
  go_loopw [5, 6] (fun b i wr => ∃ (j : Nat) (zs : List Int), j ≤ n ∧ zs.length ≤ j ∧ i = .int .i64 (j : Int) ∧ Hid (Own wr w.heap.size b zs) ∧ Hid (∀ z ∈ zs, 0 ≤ z ∧ z < 256) ∧ Hid (Below w.heap.size w wr)) (fun _ i _ => n - (intOf i).toNat)
  case atStart => exact ⟨0, [], Nat.zero_le _, Nat.zero_le _, rfl, HE, hid (fun z hz => by cases hz), HB0⟩
  case round =>
    clear HE HB0
    obtain ⟨j, zs, hj, hzl, rfl, ho, hby, hb⟩ := hrel
    have zg := hb.out.size
    by_cases hlt : j < n
    · obtain ⟨cap, w2, hrun, b2, z2, hcs⟩ := bytesOfStr s wr
      have hd : w2.ownsRow w.heap.size 5 1 u5 zs.length (zs.map (Value.int .u8)) := ho.out.kept b2 (fun k hk => (World.ownsRow.lt ho.out k hk).2)
      have HT : Hid (∀ k, u5.ownBlock = some k → w.heap.size ≤ k) := fun k hk => (World.ownsRow.lt hd k hk).1
      have HN := hid hcs
      have HO := hid (Lib.strCells_oneCell s)
      have HLN := hid (Lib.strCells_length s)
      have HB2 := hid (hb.out.trans (b2.mono zg))
      have zz := b2.size
      clear hcs b2 ho hb
      go_wp2_with (at_builtin; refine wpList_append_own _ rfl _ _ 22 rfl w.heap.size 5 i0 (.int .u8 0) 1 1 Tryd.underlying22 hi hz0 hz1 hz2 rfl (by decide) _ _ _ rfl hd ⟨wr.heap.size, 0, none⟩ s.size cap (Lib.strCells s) rfl (by rw [HLN.out]; omega) HN.out HO.out ?c3 ?c4 ?c5 ?_)
      case c3 => unfold maxLen; omega
      case c4 => omega
      case c5 => omega
      · intro v' w3 hown' hgr _
        have R : Hid (Own w3 w.heap.size v' (zs ++ strInts s)) := by
          show Own _ _ _ _
          unfold Own
          rw [List.length_append, List.map_append, strInts_length, strInts_cells]
          exact hown'
        have RB : Hid (Below w.heap.size w w3) := HB2.out.grown hgr (by omega) HT.out
        have HBy : Hid (∀ z ∈ zs ++ strInts s, 0 ≤ z ∧ z < 256) := fun z hz => by
          rcases List.mem_append.1 hz with h | h
          · exact hby.out z h
          · exact strInts_byte s z h
        have hl2 : (zs ++ strInts s).length ≤ j + 1 := by rw [List.length_append, strInts_length]; omega
        clear hown' hgr hd HN HO HLN hrun HT HB2
        go_wp2_with fail
        go_roundw
        case rel => exact ⟨j + 1, zs ++ strInts s, hlt, hl2, by go_num, R, HBy, RB⟩
        case measure => simp [intOf]; omega
    · obtain rfl : j = n := by omega
      obtain ⟨t, ht, hcv⟩ := strOwn ⟨ho.out, hby.out⟩
      have hcv0 := hcv 0
      rw [World.drewN_zero] at hcv0
      clear hcv
      go_wp2_with fail
      go_ret
      exact ⟨t, by omega, rfl, hb.out⟩
theorem own_nn {w : World} {B : Nat} {v : Value} {zs : List Int} (h : Own w B v zs) (hn : v.ownBlock ≠ none) : ∃ g cap, v = .slice (some ⟨g, 0, none⟩) zs.length cap ∧ B ≤ g ∧ g < w.heap.size ∧ Seg w (some ⟨g, 0, none⟩) zs.length (gz zs) := by
  obtain ⟨g, cap, rfl, hB, _, _, sb⟩ := own_some h hn
  exact ⟨g, cap, rfl, hB, (World.ownsRow.lt h g rfl).2, sb.seg⟩

set_option maxRecDepth 100000 in
set_option maxHeartbeats 1000000 in
theorem drawFrameC (B rb : Nat) (w : World) (h : Rd w B rb) (hB : B ≤ w.heap.size) :
    Calls Tryd.prog 20 #[.pointer (some ⟨rb, 0, none⟩)] w fun e w' => ∃ (kd : Int) (g cp : Nat) (zs : List Int), e = .returned (.agg #[.int .i64 kd, .slice (some ⟨g, 0, none⟩) zs.length cp]) ∧ 1 ≤ kd ∧ kd ≤ 3 ∧ zs.length ≤ 135 ∧ Byt (gz zs) ∧ Seg w' (some ⟨g, 0, none⟩) zs.length (gz zs) ∧ Rd w' B rb ∧ w.grownBy w' (some rb) ∧ Own w' w.heap.size (.slice (some ⟨g, 0, none⟩) zs.length cp) zs := by
  obtain ⟨W, hW⟩ : ∃ W, w.alloc (.cells #[.int .i64 0, .slice none 0 0] 41) = W := ⟨_, rfl⟩
  have bW : Below w.heap.size w W := by rw [← hW]; exact (Below.refl _ _).alloc (Nat.le_refl _) _
  have k0 : W.cell? ⟨w.heap.size, 0, none⟩ = some (.int .i64 0) := by rw [← hW]; simp
  have k1 : W.cell? ⟨w.heap.size, 1, none⟩ = some (.slice none 0 0) := by rw [← hW]; simp
  have f0 : W.frozen? ⟨w.heap.size, 0, none⟩ = false := by rw [← hW]; simp
  have f1 : W.frozen? ⟨w.heap.size, 1, none⟩ = false := by rw [← hW]; simp
  have zW : Hid (W.heap.size = w.heap.size + 1) := by rw [← hW]; exact hid (by simp)
  have HR := hid (h.below (bW.mono hB))
  have hrb := h.lt
  have HBW := hid bW
  clear h bW
  go_enter Tryd.func20, Tryd.ntmps20
  go_wp2_with fail
  try rw [hW]
  clear hW
  refine (rdNext B rb W HR.out).mono ?_
  rintro e w1 ⟨k, hk, rfl, r1, g1⟩
  have HR1 := hid r1
  have HG1 := hid g1
  have z1 := g1.size
  have nb : some w.heap.size ≠ some rb := fun e => by injection e with e; omega
  have cb := fun i => World.cell?_of_block (a := ⟨w.heap.size, i, none⟩) (g1.block w.heap.size (by have := zW.out; omega) nb)
  have fb := fun i => World.frozen?_of_block (a := ⟨w.heap.size, i, none⟩) (g1.block w.heap.size (by have := zW.out; omega) nb)
  have m0 := (cb 0).trans k0
  have m1 := (cb 1).trans k1
  have y0 := (fb 0).trans f0
  have y1 := (fb 1).trans f1
  clear r1 g1 cb fb k0 k1 f0 f1
  obtain ⟨kd, hkd⟩ : ∃ kd : Int, 1 + (k : Int) % 3 = kd := ⟨_, rfl⟩
  have hkd1 : 1 ≤ kd ∧ kd ≤ 3 := by omega
  have wkd : IntKind.i64.wrap (1 + (k : Int) % 3) = kd := by rw [IntKind.wrap_i64]; omega
  have HKD := hid hkd1
  have step : ∀ n : Nat, n ≤ 135 → Hid (∀ w1' : World, w1' = w1 → Calls Tryd.prog 28 #[.pointer (some ⟨rb, 0, none⟩), .int .i64 (n : Int)] w1' fun e w' => ∃ v zs, e = .returned v ∧ zs.length = n ∧ v.ownBlock ≠ none ∧ Bys w' w1'.heap.size v zs ∧ Rd w' B rb ∧ w1'.grownBy w' (some rb)) := fun n hn => hid (fun w1' e => by subst e; exact rdBytesN B rb n _ HR1.out (by omega) (by have := zW.out; omega))
  by_cases h240 : 240 ≤ k
  · obtain ⟨n, hn⟩ : ∃ n : Nat, 120 + (k : Int) % 16 = (n : Int) := ⟨120 + k % 16, by omega⟩
    have hn5 : n ≤ 135 := by omega
    have wn : IntKind.i64.wrap (120 + (k : Int) % 16) = (n : Int) := by rw [IntKind.wrap_i64]; omega
    have HS := step n hn5
    clear step hn hkd hkd1
    go_wp2_with fail
    refine (HS.out _ rfl).mono ?_
    rintro e w2 ⟨v, zs, rfl, hzl, hnn, hby, r2, g2⟩
    subst hzl
    obtain ⟨g, cp, rfl, hg1, hg2, sg⟩ := own_nn hby.1 hnn
    have HBY := hid (gz_byte hby.2)
    have cb := fun i => World.cell?_of_block (a := ⟨w.heap.size, i, none⟩) (g2.block w.heap.size (by have := zW.out; omega) nb)
    have fb := fun i => World.frozen?_of_block (a := ⟨w.heap.size, i, none⟩) (g2.block w.heap.size (by have := zW.out; omega) nb)
    have p0 := (cb 0).trans m0
    have p1 := (cb 1).trans m1
    have q0 := (fb 0).trans y0
    have q1 := (fb 1).trans y1
    have e01 := boxE (.int .i64 kd) (.slice (some ⟨g, 0, none⟩) zs.length cp) p0 p1
    have G1 := grownSetF w2 ⟨w.heap.size, 0, none⟩ (.int .i64 kd)
    have G2 := grownSetF (w2.setCell ⟨w.heap.size, 0, none⟩ (.int .i64 kd)) ⟨w.heap.size, 1, none⟩ (.slice (some ⟨g, 0, none⟩) zs.length cp)
    have zz : w.heap.size < g := by have := zW.out; omega
    have SG : Hid (Seg ((w2.setCell ⟨w.heap.size, 0, none⟩ (.int .i64 kd)).setCell ⟨w.heap.size, 1, none⟩ (.slice (some ⟨g, 0, none⟩) zs.length cp)) (some ⟨g, 0, none⟩) zs.length (gz zs)) := hid (by
      refine seg_keep (cap := cp) sg (Nat.le_trans G1.size G2.size) (fun b hb => ?_)
      simp [Value.ownBlock] at hb
      exact (G2.block b (Nat.lt_of_lt_of_le (by omega) G1.size) (by simp; omega)).trans (G1.block b (by omega) (by simp; omega)))
    have GG : Hid (w.grownBy ((w2.setCell ⟨w.heap.size, 0, none⟩ (.int .i64 kd)).setCell ⟨w.heap.size, 1, none⟩ (.slice (some ⟨g, 0, none⟩) zs.length cp)) (some rb)) := hid (by
      refine ⟨(g2.os.trans HG1.out.os).trans HBW.out.os, (g2.tape.trans HG1.out.tape).trans HBW.out.tape, (g2.output.trans HG1.out.output).trans HBW.out.output, by have := g2.size; have := HBW.out.size; have := G1.size; have := G2.size; omega, fun b hb hne => ?_⟩
      have h1 : b ≠ w.heap.size := by omega
      have hz := zW.out
      exact ((((G2.block b (by have := G1.size; have := g2.size; omega) (by simp; omega)).trans (G1.block b (by have := g2.size; omega) (by simp; omega))).trans (g2.block b (by omega) hne)).trans (HG1.out.block b (by omega) hne)).trans (HBW.out.block b hb))
    have OW : Hid (Own ((w2.setCell ⟨w.heap.size, 0, none⟩ (.int .i64 kd)).setCell ⟨w.heap.size, 1, none⟩ (.slice (some ⟨g, 0, none⟩) zs.length cp)) w.heap.size (.slice (some ⟨g, 0, none⟩) zs.length cp) zs) := hid (((own_weak hby.1 (by have := zW.out; omega)).gr G1 (fun g' e1 e2 => by simp [Value.ownBlock] at e1; injection e2 with e2; simp at e2; omega)).gr G2 (fun g' e1 e2 => by simp [Value.ownBlock] at e1; injection e2 with e2; simp at e2; omega))
    have RR : Hid (Rd ((w2.setCell ⟨w.heap.size, 0, none⟩ (.int .i64 kd)).setCell ⟨w.heap.size, 1, none⟩ (.slice (some ⟨g, 0, none⟩) zs.length cp)) B rb) := hid (r2.below (((Below.refl B w2).setCell (p := ⟨w.heap.size, 0, none⟩) hB _).setCell (p := ⟨w.heap.size, 1, none⟩) hB _))
    clear hby r2 g2 cb fb G1 G2 sg hnn HS m0 m1 y0 y1
    go_wp2_with fail
    obtain ⟨x0, x1⟩ := e01
    refine bodyPost_ret (v := .agg #[.int .i64 kd, .slice (some ⟨g, 0, none⟩) zs.length cp]) (by simp [results, Tryd.results20, go_sem, x0, x1]) rfl ?_
    exact ⟨kd, g, cp, zs, rfl, HKD.out.1, HKD.out.2, by omega, HBY.out, SG.out, RR.out, GG.out, OW.out⟩
  · obtain ⟨n, hn⟩ : ∃ n : Nat, (k : Int) / 4 % 12 = (n : Int) := ⟨k / 4 % 12, by omega⟩
    have hn5 : n ≤ 135 := by omega
    have h240' : decide ((240 : Int) ≤ (k : Int)) = false := by simp; omega
    have HS := step n hn5
    clear step hkd hkd1
    go_wp2_with fail
    refine (HS.out _ rfl).mono ?_
    rintro e w2 ⟨v, zs, rfl, hzl, hnn, hby, r2, g2⟩
    subst hzl
    obtain ⟨g, cp, rfl, hg1, hg2, sg⟩ := own_nn hby.1 hnn
    have HBY := hid (gz_byte hby.2)
    have cb := fun i => World.cell?_of_block (a := ⟨w.heap.size, i, none⟩) (g2.block w.heap.size (by have := zW.out; omega) nb)
    have fb := fun i => World.frozen?_of_block (a := ⟨w.heap.size, i, none⟩) (g2.block w.heap.size (by have := zW.out; omega) nb)
    have p0 := (cb 0).trans m0
    have p1 := (cb 1).trans m1
    have q0 := (fb 0).trans y0
    have q1 := (fb 1).trans y1
    have e01 := boxE (.int .i64 kd) (.slice (some ⟨g, 0, none⟩) zs.length cp) p0 p1
    have G1 := grownSetF w2 ⟨w.heap.size, 0, none⟩ (.int .i64 kd)
    have G2 := grownSetF (w2.setCell ⟨w.heap.size, 0, none⟩ (.int .i64 kd)) ⟨w.heap.size, 1, none⟩ (.slice (some ⟨g, 0, none⟩) zs.length cp)
    have zz : w.heap.size < g := by have := zW.out; omega
    have SG : Hid (Seg ((w2.setCell ⟨w.heap.size, 0, none⟩ (.int .i64 kd)).setCell ⟨w.heap.size, 1, none⟩ (.slice (some ⟨g, 0, none⟩) zs.length cp)) (some ⟨g, 0, none⟩) zs.length (gz zs)) := hid (by
      refine seg_keep (cap := cp) sg (Nat.le_trans G1.size G2.size) (fun b hb => ?_)
      simp [Value.ownBlock] at hb
      exact (G2.block b (Nat.lt_of_lt_of_le (by omega) G1.size) (by simp; omega)).trans (G1.block b (by omega) (by simp; omega)))
    have GG : Hid (w.grownBy ((w2.setCell ⟨w.heap.size, 0, none⟩ (.int .i64 kd)).setCell ⟨w.heap.size, 1, none⟩ (.slice (some ⟨g, 0, none⟩) zs.length cp)) (some rb)) := hid (by
      refine ⟨(g2.os.trans HG1.out.os).trans HBW.out.os, (g2.tape.trans HG1.out.tape).trans HBW.out.tape, (g2.output.trans HG1.out.output).trans HBW.out.output, by have := g2.size; have := HBW.out.size; have := G1.size; have := G2.size; omega, fun b hb hne => ?_⟩
      have h1 : b ≠ w.heap.size := by omega
      have hz := zW.out
      exact ((((G2.block b (by have := G1.size; have := g2.size; omega) (by simp; omega)).trans (G1.block b (by have := g2.size; omega) (by simp; omega))).trans (g2.block b (by omega) hne)).trans (HG1.out.block b (by omega) hne)).trans (HBW.out.block b hb))
    have OW : Hid (Own ((w2.setCell ⟨w.heap.size, 0, none⟩ (.int .i64 kd)).setCell ⟨w.heap.size, 1, none⟩ (.slice (some ⟨g, 0, none⟩) zs.length cp)) w.heap.size (.slice (some ⟨g, 0, none⟩) zs.length cp) zs) := hid (((own_weak hby.1 (by have := zW.out; omega)).gr G1 (fun g' e1 e2 => by simp [Value.ownBlock] at e1; injection e2 with e2; simp at e2; omega)).gr G2 (fun g' e1 e2 => by simp [Value.ownBlock] at e1; injection e2 with e2; simp at e2; omega))
    have RR : Hid (Rd ((w2.setCell ⟨w.heap.size, 0, none⟩ (.int .i64 kd)).setCell ⟨w.heap.size, 1, none⟩ (.slice (some ⟨g, 0, none⟩) zs.length cp)) B rb) := hid (r2.below (((Below.refl B w2).setCell (p := ⟨w.heap.size, 0, none⟩) hB _).setCell (p := ⟨w.heap.size, 1, none⟩) hB _))
    clear hby r2 g2 cb fb G1 G2 sg hnn HS m0 m1 y0 y1
    go_wp2_with fail
    obtain ⟨x0, x1⟩ := e01
    refine bodyPost_ret (v := .agg #[.int .i64 kd, .slice (some ⟨g, 0, none⟩) zs.length cp]) (by simp [results, Tryd.results20, go_sem, x0, x1]) rfl ?_
    exact ⟨kd, g, cp, zs, rfl, HKD.out.1, HKD.out.2, by omega, HBY.out, SG.out, RR.out, GG.out, OW.out⟩

theorem cells_gz (zs : List Int) : cells8 (gz zs) zs.length = zs.map (Value.int .u8) := by
  refine List.ext_getElem? (fun i => ?_)
  by_cases hi : i < zs.length
  · rw [cells8_get _ _ _ hi]; simp [gz, List.getD, hi]
  · rw [List.getElem?_eq_none (by simp [cells8]; omega), List.getElem?_eq_none (by simp; omega)]
theorem frB_byteB {k : Int} {f : Nat → Int} {n : Nat} (hf : Byt f) (h1 : 1 ≤ k) (h3 : k ≤ 3) (hn : n ≤ 4194304) : ∀ z ∈ frB k f n, 0 ≤ z ∧ z < 256 := by
  intro z hz
  have hp := preF_byte hf h1 h3 hn
  have hV := crc_u32 (gz_byte hp) (preF k f n).length
  unfold frB at hz
  rcases List.mem_append.1 hz with hz | hz
  · exact hp z hz
  · simp [sum4] at hz; omega
theorem frB_lenB (k : Int) (f : Nat → Int) (n : Nat) : (frB k f n).length ≤ n + 17 := by
  have := preF_len k f n
  unfold frB
  rw [List.length_append]
  simp [sum4]; omega

set_option maxRecDepth 100000 in
set_option maxHeartbeats 1000000 in
theorem streamC (B rb : Nat) (w : World) (h : Rd w B rb) (hB : B ≤ w.heap.size) :
    Calls Tryd.prog 11 #[.pointer (some ⟨rb, 0, none⟩)] w fun e w' => ∃ v zs, e = .returned v ∧ zs.length ≤ 700 ∧ Bys w' w.heap.size v zs ∧ Rd w' B rb ∧ w.grownBy w' (some rb) := by
  have HR := hid h
  have hrb := h.lt
  clear h
  go_enter Tryd.func11, Tryd.ntmps11
  go_wp2_with fail
  refine (rdNext B rb w HR.out).mono ?_
  rintro e w1 ⟨k, hk, rfl, r1, g1⟩
  have z1 := g1.size
  have HE := hid (rowE w1 w.heap.size z1)
  have HG0 := hid (grown_trans g1 (World.grownBy_alloc w1 (.cells #[] 5) (some rb)))
  have HR0 := hid (r1.below ((Below.refl B w1).alloc (by omega) (.cells #[] 5)))
  clear r1 g1 HR
  obtain ⟨q, hq⟩ : ∃ q : Nat, 1 + k % 4 = q := ⟨_, rfl⟩
  have wq : IntKind.i64.wrap (1 + (k : Int) % 4) = (q : Int) := by rw [IntKind.wrap_i64]; omega
  have HQ : Hid (q ≤ 4) := hid (by omega)
  clear hq
  go_wp2_with fail
  go_loopw [4, 5] (fun b i wr => ∃ (j : Nat) (zs : List Int), j ≤ q ∧ i = .int .i64 (j : Int) ∧ Hid (zs.length ≤ 160 * j) ∧ Hid (Own wr w.heap.size b zs) ∧ Hid (∀ z ∈ zs, 0 ≤ z ∧ z < 256) ∧ Hid (Rd wr B rb) ∧ Hid (w.grownBy wr (some rb))) (fun _ i _ => q - (intOf i).toNat)
  case atStart => exact ⟨0, [], Nat.zero_le _, rfl, hid (by simp), HE, hid (fun z hz => by cases hz), HR0, HG0⟩
  case round =>
    clear HE HR0 HG0
    obtain ⟨j, zs, hj, rfl, hzl, ho, hby, hr, hg⟩ := hrel
    have hq4 : q ≤ 4 := HQ.out
    have zg := hg.out.size
    by_cases hlt : j < q
    · have dlt : decide ((j : Int) < (q : Int)) = true := by simp; omega
      go_wp2_with fail
      refine (drawFrameC B rb wr hr.out (by omega)).mono ?_
      rintro e w2 ⟨kd, g, cp, ps, rfl, hk1, hk3, hp5, hpb, sg, r2, g2, _⟩
      have HPF := hid (specPFc g ps.length cp kd (gz ps) w2 (by omega) (by omega) (by omega) hpb sg)
      have hok : okF kd ps.length = true := by simp [okF]; omega
      have HFZ : Hid (frZ kd (gz ps) ps.length = frB kd (gz ps) ps.length) := by unfold frZ; rw [hok]; exact hid rfl
      rw [hok, HFZ.out] at HPF
      have hfb := frB_byteB (k := kd) (n := ps.length) hpb hk1 hk3 (by omega)
      have hfl := frB_lenB kd (gz ps) ps.length
      obtain ⟨fb, hfbe⟩ : ∃ fb, frB kd (gz ps) ps.length = fb := ⟨_, rfl⟩
      rw [hfbe] at HPF hfb hfl
      have HFB := hid hfb
      have HFL : Hid (fb.length ≤ 152) := hid (by omega)
      have z2 := g2.size
      have O2 := hid (ho.out.gr g2 (fun g' e1 e2 => by have := (World.ownsRow.lt ho.out g' e1).1; injection e2 with e2; omega))
      have HR2 := hid r2
      have HG2 := hid (grown_trans hg.out g2)
      clear sg r2 g2 hfb hfl hok HFZ hpb ho hr hg hfbe
      go_wp2_with fail
      refine HPF.out.mono ?_
      rintro e w3 ⟨v3, rfl, o3, b3⟩
      obtain ⟨a3, c3, rfl, s3⟩ := o3.any
      have O3 : Hid (w3.ownsRow w.heap.size 5 1 u4 zs.length (zs.map (Value.int .u8))) := hid (O2.out.kept b3 (fun k hk => (World.ownsRow.lt O2.out k hk).2))
      have HS3 := hid s3
      have z3 := b3.size
      have HR3 := hid (HR2.out.below (b3.mono (by omega)))
      have HG3 := hid (grown_below HG2.out b3)
      have hZL := hzl.out
      have hFL := HFL.out
      clear o3 s3 b3 HPF O2 HR2 HG2
      go_wp2_with (at_builtin; refine wpList_app_sg rfl _ _ rfl w.heap.size _ _ _ rfl O3.out a3 fb.length c3 (gz fb) rfl HS3.out ?c3 ?c4 ?c5 ?_)
      case c3 => have h5 : zs.length ≤ 160 * j := hzl.out; have h6 : fb.length ≤ 152 := HFL.out; have h7 : q ≤ 4 := HQ.out; unfold maxLen; omega
      case c4 => have h5 : zs.length ≤ 160 * j := hzl.out; have h6 : fb.length ≤ 152 := HFL.out; have h7 : q ≤ 4 := HQ.out; omega
      case c5 => omega
      intro v4 w4 hown4 hgr4 _
      have O4 : Hid (Own w4 w.heap.size v4 (zs ++ fb)) := by
        unfold Own
        rw [List.length_append, List.map_append, ← cells_gz fb]
        exact hid hown4
      have B4 : Below w.heap.size w3 w4 := (Below.refl _ _).grown hgr4 (by omega) (fun k hk => (World.ownsRow.lt O3.out k hk).1)
      have HR4 := hid (HR3.out.below (B4.mono hB))
      have HG4 : Hid (w.grownBy w4 (some rb)) := hid ⟨B4.os.trans HG3.out.os, B4.tape.trans HG3.out.tape, B4.output.trans HG3.out.output, Nat.le_trans HG3.out.size B4.size, fun k hk hne => (B4.block k hk).trans (HG3.out.block k hk hne)⟩
      have HBy : Hid (∀ z ∈ zs ++ fb, 0 ≤ z ∧ z < 256) := hid (fun z hz => by
        rcases List.mem_append.1 hz with h | h
        · exact hby.out z h
        · exact HFB.out z h)
      have HL4 : Hid ((zs ++ fb).length ≤ 160 * (j + 1)) := hid (by have h5 : zs.length ≤ 160 * j := hzl.out; have h6 : fb.length ≤ 152 := HFL.out; rw [List.length_append]; omega)
      clear hown4 hgr4 B4 O3 HS3 HR3 HG3 hZL hFL
      go_wp2_with fail
      go_roundw
      case rel => exact ⟨j + 1, zs ++ fb, hlt, by go_num, HL4, O4, HBy, HR4, HG4⟩
      case measure => simp [intOf]; omega
    · have dlt : decide ((j : Int) < (q : Int)) = false := by simp; omega
      have HZ : Hid (zs.length ≤ 640) := hid (by have := hzl.out; have := HQ.out; omega)
      by_cases h2 : k / 4 % 3 = 2
      · have e2 : ((k : Int) / 4 % 3 == 2) = true := by simp; omega
        have e3 : (k : Int) / 4 % 3 = 2 := by omega
        have HC := hid (rdChange B rb u4 zs w.heap.size wr hr.out ⟨ho.out, hby.out⟩ hB zg (by have := HZ.out; omega))
        go_wp2_with fail
        refine HC.out.mono ?_
        rintro e w2 ⟨v', zs', rfl, hl', hb', r', g'⟩
        have H := hid (And.intro hb' (And.intro r' (grown_trans hg.out g')))
        have HL : Hid (zs'.length ≤ 700) := hid (by have := HZ.out; omega)
        clear hb' r' g' HC hl'
        go_wp2_with fail
        go_ret
        exact ⟨_, zs', rfl, HL.out, H.out.1, H.out.2.1, H.out.2.2⟩
      · have e2 : ((k : Int) / 4 % 3 == 2) = false := by simp; omega
        have e3 : ¬ (k : Int) / 4 % 3 = 2 := by omega
        go_wp2_with fail
        go_ret
        exact ⟨_, zs, rfl, by have := HZ.out; omega, ⟨ho.out, hby.out⟩, hr.out, hg.out⟩

set_option maxRecDepth 100000 in
set_option maxHeartbeats 1000000 in
theorem streamBytesC (a : Option Addr) (n c : Nat) (f : Nat → Int) (w : World) (hnc : n ≤ c) (hn : n ≤ 9223372036854775807) (h : Seg w a n f) (hf : Byt f) :
    Calls Tryd.prog 4 #[.slice a n c] w fun e w' => ∃ v zs, e = .returned v ∧ zs.length ≤ 5000 ∧ Bys w' w.heap.size v zs ∧ Below w.heap.size w w' := by
  have HO := hid (rdOpen a n c f w hnc hn h hf)
  clear h hf
  go_enter Tryd.func4, Tryd.ntmps4
  go_wp2_with fail
  refine HO.out.mono ?_
  rintro e w1 ⟨rfl, r1, b1⟩
  have HR1 := hid r1
  have HB1 := hid b1
  have hl1 := r1.lt
  clear r1 b1 HO
  go_wp2_with fail
  refine (rdNext _ _ w1 HR1.out).mono ?_
  rintro e w2 ⟨k, hk, rfl, r2, g2⟩
  have z2 := g2.size
  have HR2 := hid r2
  have HB2 := hid (HB1.out.grown g2 HB1.out.size (fun q hq => by injection hq with hq; omega))
  clear r2 g2 HR1 HB1
  go_wp2_with fail
  refine (streamC _ _ w2 HR2.out (by omega)).mono ?_
  rintro e w3 ⟨v3, zs, rfl, hl3, hb3, r3, g3⟩
  have z3 := g3.size
  have HO3 := hid hb3
  have HB3 := hid (HB2.out.grown g3 HB2.out.size (fun q hq => by injection hq with hq; omega))
  have HL3 := hid hl3
  clear hb3 r3 g3 HR2 HB2 hl3
  by_cases h15 : k % 16 = 15
  · have e0 : ((k : Int) % 16 == 15) = true := by simp; omega
    have e1 : (k : Int) % 16 = 15 := by omega
    obtain ⟨q, hq⟩ : ∃ q : Nat, (4000 : Int) - (k : Int) / 128 = (q : Int) := ⟨4000 - k / 128, by omega⟩
    have wq : IntKind.i64.wrap ((4000 : Int) - (k : Int) / 128) = (q : Int) := by rw [IntKind.wrap_i64]; omega
    have HRP := hid (fun w' => rdRepeat4 ⟨#[112]⟩ q w' (by decide) (by omega))
    clear hq
    go_wp2_with fail
    refine (HRP.out _).mono ?_
    rintro e w4 ⟨t, ht, rfl, b4⟩
    obtain ⟨cap, w5, hcv, b5, z5, hcs⟩ := bytesOfStr t w4
    have zz4 := b4.size
    have SG : Seg w5 (some ⟨w4.heap.size, 0, none⟩) t.size (gz (strInts t)) := by
      by_cases h0 : t.size = 0
      · exact .inl h0
      · refine .inr ⟨w4.heap.size, 0, rfl, z5, fun i hi => ?_⟩
        have hi' : i < (strInts t).length := by rw [strInts_length]; exact hi
        have := hcs i (.int .u8 (gz (strInts t) i)) (by rw [← strInts_cells, ← cells_gz, cells8_get _ _ _ hi'])
        rw [← this]
        congr 1
        by_cases hz : i = 0
        · subst hz; simp [Addr.add]
        · simp [Addr.add, hz]
    have HPF := hid (specPFc w4.heap.size t.size cap 2 (gz (strInts t)) w5 (by omega) (by omega) (by omega) (gz_byte (strInts_byte t)) SG)
    have hok : okF 2 t.size = true := by simp [okF]; omega
    have HFZ : Hid (frZ 2 (gz (strInts t)) t.size = frB 2 (gz (strInts t)) t.size) := by unfold frZ; rw [hok]; exact hid rfl
    rw [hok, HFZ.out] at HPF
    have HFB := hid (frB_byteB (k := 2) (n := t.size) (gz_byte (strInts_byte t)) (by omega) (by omega) (by omega))
    have HFL := hid (frB_lenB 2 (gz (strInts t)) t.size)
    obtain ⟨fb, hfbe⟩ : ∃ fb, frB 2 (gz (strInts t)) t.size = fb := ⟨_, rfl⟩
    rw [hfbe] at HPF HFB HFL
    have HB5 := hid ((HB3.out.trans (b4.mono HB3.out.size)).trans (b5.mono (by have := HB3.out.size; omega)))
    have O5 := hid ((HO3.out.1.kept b4 (fun k hk => (World.ownsRow.lt HO3.out.1 k hk).2)))
    have O6 := hid (O5.out.kept b5 (fun k hk => (World.ownsRow.lt O5.out k hk).2))
    clear b4 b5 hcs SG hok HFZ hfbe O5
    go_wp2_with fail
    refine HPF.out.mono ?_
    rintro e w6 ⟨v6, rfl, o6, b6⟩
    have O7 := hid (O6.out.kept b6 (fun k hk => (World.ownsRow.lt O6.out k hk).2))
    have z6 := b6.size
    have HB6 := hid (keepS HB5.out b6)
    have P6 := hid o6
    obtain ⟨a3, c3, e3, s3⟩ := O7.out.any
    subst e3
    have S3 := hid s3
    clear o6 b6 HPF O6 HB5 s3
    have zw := HB6.out.size
    have hh := HL3.out
    have hh2 := HFL.out
    go_wp2_with (at_builtin; refine wpList_app_sg rfl _ _ rfl w5.heap.size _ _ _ rfl P6.out a3 zs.length c3 (gz zs) rfl S3.out ?c3 ?c4 ?c5 ?_)
    case c3 => have h5 : zs.length ≤ 700 := HL3.out; have h6 : fb.length ≤ t.size + 17 := HFL.out; unfold maxLen; omega
    case c4 => have h5 : zs.length ≤ 700 := HL3.out; have h6 : fb.length ≤ t.size + 17 := HFL.out; omega
    case c5 => omega
    intro v7 w7 hown7 hgr7 _
    have O8 : Hid (Own w7 w.heap.size v7 (fb ++ zs)) := by
      have : Own w7 w5.heap.size v7 (fb ++ zs) := by
        unfold Own
        rw [List.length_append, List.map_append, ← cells_gz zs]
        exact hown7
      exact hid (own_weak this (by have := HB3.out.size; omega))
    have B8 : Hid (Below w.heap.size w w7) := hid (HB6.out.grown hgr7 HB6.out.size (fun q hq => by have := (World.ownsRow.lt P6.out q hq).1; have := HB3.out.size; omega))
    have BY : Hid (∀ z ∈ fb ++ zs, 0 ≤ z ∧ z < 256) := hid (fun z hz => by
      rcases List.mem_append.1 hz with h | h
      · exact HFB.out z h
      · exact HO3.out.2 z h)
    have LN : Hid ((fb ++ zs).length ≤ 5000) := hid (by have h5 : zs.length ≤ 700 := HL3.out; have h6 : fb.length ≤ t.size + 17 := HFL.out; rw [List.length_append]; omega)
    clear hown7 hgr7
    go_wp2_with fail
    go_ret
    exact ⟨_, _, rfl, LN.out, ⟨O8.out, BY.out⟩, B8.out⟩
  · have e0 : ((k : Int) % 16 == 15) = false := by simp; omega
    have e1 : ¬ (k : Int) % 16 = 15 := by omega
    have O3 : Hid (Bys w3 w.heap.size v3 zs) := hid ⟨own_weak HO3.out.1 (by have := HB3.out.size; omega), HO3.out.2⟩
    go_wp2_with fail
    go_ret
    exact ⟨_, zs, rfl, by have := HL3.out; omega, O3.out, HB3.out⟩
end Go.Proofs.YthkppnmnjboiaaaDoor
