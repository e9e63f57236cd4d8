import Derived.Test.YtbimcammjohaoadGreatDoorMg29
namespace Go.Proofs.YtbimcammjohaoadGreatDoor
open Go.ChangeShapes Go.WideShapes Go.ChangeAt Go.RowKit
set_option linter.unusedVariables false
set_option linter.unusedSimpArgs false

noncomputable def rdI (f : Nat → Int) (n : Nat) (x most : Int) : Option (Nat × Nat) := if 0 ≤ x then rd f n x.toNat most else none
theorem rdI_nat (f : Nat → Int) (n p : Nat) (most : Int) : rdI f n (p : Int) most = rd f n p most := by
  unfold rdI; rw [if_pos (by omega)]; simp

theorem uvC (cb B : Nat) (a : Option Addr) (n c : Nat) (x : Int) (f : Nat → Int) (aT aS aL aE : Addr) (w : World) (hn : n ≤ 1048576) (hf : Byt f) (hcur : Cur w cb a n c x) (hs : Seg w a n f) (hab : ∀ y, a = some y → y.block ≠ cb) (hE : Errs w B aT aS aL aE) (hBc : B ≤ cb) :
    Calls Tryz.prog 65 #[.pointer (some ⟨cb, 0, none⟩)] w fun e w' => w.grownBy w' (some cb) ∧
      ((∃ V x' : Nat, V < 18446744073709551616 ∧ (∀ most : Int, rdI f n x most = if (V : Int) ≤ most then some (V, x') else none) ∧ e = .returned (.tuple #[.int .u64 (V : Int), .nilIface]) ∧ Cur w' cb a n c (x' : Int)) ∨
       ((∀ most : Int, rdI f n x most = none) ∧ ∃ (t : TypeId) (v : Value) (y : Int), e = .returned (.tuple #[.int .u64 0, .iface t v]) ∧ Cur w' cb a n c y)) := by
  by_cases hx : x < 0 ∨ (n : Int) ≤ x
  · refine (uvOut cb B a n c x aT aS aL aE w hn hcur hx hE).mono ?_
    rintro e w1 ⟨pb, rfl, hpb, hP, b1⟩
    refine ⟨grown_below (grown_refl w (some cb)) b1, .inr ⟨fun most => ?_, _, _, x, rfl, hcur.below b1 hcur.lt⟩⟩
    unfold rdI
    split
    · rename_i h0
      unfold rd
      rw [gX_out (by omega)]
      simp
    · rfl
  · obtain ⟨p, rfl⟩ : ∃ p : Nat, x = (p : Int) := ⟨x.toNat, by omega⟩
    have hp : p < n := by omega
    rcases hs with h | ⟨b, off, rfl, hb, hc⟩
    · omega
    have hm := cN_spec f n p
    have hbb := gX_bounds (x := (p : Int)) (by simpa using hm) hf hn (by omega) (by omega)
    rw [gX_in hp] at hbb
    refine (uvIn cb B b off n c p (cN f n p) f aT aS aL aE w hn hf hcur hp hm hE hBc (hab _ rfl) hb hc).mono ?_
    rintro e w1 ⟨g1, ⟨h0, rfl, cu⟩ | ⟨h0, pb, rfl, hpb, hP, y, cu⟩⟩
    · refine ⟨g1, .inl ⟨guV f n p (cN f n p), guA f n p (cN f n p), hbb.1, fun most => ?_, rfl, cu⟩⟩
      rw [rdI_nat]
      unfold rd
      rw [gX_in hp, h0]
      simp
    · refine ⟨g1, .inr ⟨fun most => ?_, _, _, y, rfl, cu⟩⟩
      rw [rdI_nat]
      unfold rd
      rw [gX_in hp]
      simp [h0]

set_option maxRecDepth 100000 in
set_option maxHeartbeats 1000000 in
theorem numberC (cb B : Nat) (a : Option Addr) (n c : Nat) (x most : Int) (f : Nat → Int) (aT aS aL aE : Addr) (w : World) (hn : n ≤ 1048576) (hf : Byt f) (hcur : Cur w cb a n c x) (hs : Seg w a n f) (hab : ∀ y, a = some y → y.block ≠ cb) (hE : Errs w B aT aS aL aE) (hBc : B ≤ cb)
    (hm0 : -1000000000000 ≤ most) (hm1 : most ≤ 1000000000000) :
    Calls Tryz.prog 54 #[.pointer (some ⟨cb, 0, none⟩), .int .i64 most] w fun e w' => w.grownBy w' (some cb) ∧
      ((∃ V x' : Nat, rdI f n x most = some (V, x') ∧ (V : Int) ≤ most ∧ e = .returned (.tuple #[.int .i64 (V : Int), .nilIface]) ∧ Cur w' cb a n c (x' : Int)) ∨
       (rdI f n x most = none ∧ ∃ (t : TypeId) (v : Value) (y : Int), e = .returned (.tuple #[.int .i64 0, .iface t v]) ∧ Cur w' cb a n c y)) := by
  have hcl := hcur.lt
  have HU := hid (uvC cb B a n c x f aT aS aL aE w hn hf hcur hs hab hE hBc)
  have HE := hid hE
  clear hE hcur hs hab
  go_enter Tryz.func54, Tryz.ntmps54
  go_wp2_with fail
  refine HU.out.mono ?_
  rintro e w1 ⟨g1, ⟨V, x', hV, hr, rfl, cu⟩ | ⟨hr, t, v, y, rfl, cu⟩⟩
  · have hE1 := HE.out.below ((Below.refl B w).grown g1 (by omega) (fun k hk => by injection hk with hk; omega))
    obtain ⟨vM, hgM⟩ := hE1.gM
    have HG := hid g1
    have HR := hid hr
    have HC := hid cu
    clear g1 hr cu hE1 HU HE
    by_cases h0 : most < 0
    · go_wp2_with fail
      go_quiet (fail)
      go_wp2_with fail
      go_ret2
      exact ⟨grown_trans HG.out (grown_drewN _ _ _), .inr ⟨by rw [HR.out, if_neg (by omega)], _, _, _, rfl, HC.out.below (below_drewN (Below.refl _ _) _) HC.out.lt⟩⟩
    · have e1 : IntKind.u64.wrap most = most := by rw [IntKind.wrap_u64]; omega
      have d0 : decide (most < 0) = false := by simpa using h0
      by_cases h1 : (V : Int) ≤ most
      · have d1 : decide (most < (V : Int)) = false := by simpa using h1
        have e2 : IntKind.i64.wrap (V : Int) = (V : Int) := by rw [IntKind.wrap_i64]; omega
        go_wp2_with fail
        go_ret2
        refine ⟨HG.out, .inl ⟨V, x', by rw [HR.out, if_pos h1], h1, ?_, HC.out⟩⟩
        first | rfl | rw [e2]
      · have d1 : decide (most < (V : Int)) = true := by simp; omega
        go_wp2_with fail
        go_quiet (fail)
        go_wp2_with fail
        go_ret2
        exact ⟨grown_trans HG.out (grown_drewN _ _ _), .inr ⟨by rw [HR.out, if_neg (by omega)], _, _, _, rfl, HC.out.below (below_drewN (Below.refl _ _) _) HC.out.lt⟩⟩
  · have HG := hid g1
    have HR := hid hr
    have HC := hid cu
    clear g1 hr cu HU HE
    go_wp2_with fail
    go_ret2
    exact ⟨HG.out, .inr ⟨HR.out _, _, _, _, rfl, HC.out⟩⟩
end Go.Proofs.YtbimcammjohaoadGreatDoor

namespace Go.Proofs.YtbimcammjohaoadGreatDoor
open Go.ChangeShapes Go.WideShapes Go.ChangeAt Go.RowKit
set_option linter.unusedVariables false
set_option linter.unusedSimpArgs false

theorem Seg.grown {w w1 : World} {a : Option Addr} {n cb : Nat} {f : Nat → Int} (h : Seg w a n f) (g : w.grownBy w1 (some cb)) (hab : ∀ y, a = some y → y.block ≠ cb) : Seg w1 a n f := by
  rcases h with h | ⟨b, off, rfl, hb, hc⟩
  · exact .inl h
  · refine .inr ⟨b, off, rfl, Nat.lt_of_lt_of_le hb g.size, fun i hi => ?_⟩
    rw [World.cell?_of_block (g.block b hb (by have := hab _ rfl; simpa using this))]
    exact hc i hi
theorem Errs.grown {w w1 : World} {B cb : Nat} {aT aS aL aE : Addr} (h : Errs w B aT aS aL aE) (g : w.grownBy w1 (some cb)) (hBc : B ≤ cb) (hcl : cb < w.heap.size) : Errs w1 B aT aS aL aE :=
  h.below ((Below.refl B w).grown g (by omega) (fun k hk => by injection hk with hk; omega))

noncomputable def rdSpan (f : Nat → Int) (n : Nat) (least : Int) (x : Nat) : Option ((Int × Int) × Nat) :=
  (rd f n x (1000000000 - least)).bind fun a => (rd f n a.2 (1000000000 - (least + (a.1 : Int)))).bind fun b => some ((least + (a.1 : Int), least + (a.1 : Int) + (b.1 : Int)), b.2)
theorem rdSpans_succ (f : Nat → Int) (n k : Nat) (least : Int) (x : Nat) : rdSpans f n (k + 1) least x = (rdSpan f n least x).bind fun a => (rdSpans f n k (a.1.2 + 2) a.2).bind fun b => some (a.1 :: b.1, b.2) := by
  unfold rdSpan
  rw [rdSpans]
  cases h1 : rd f n x (1000000000 - least) with
  | none => rfl
  | some a =>
    simp only [Option.bind_eq_bind, Option.bind_some]
    cases h2 : rd f n a.2 (1000000000 - (least + (a.1 : Int))) with
    | none => rfl
    | some b => rfl

theorem box2 {w w2 : World} {cb n c : Nat} {a : Option Addr} {y : Int} {u0 u1 : Value} (v0 v1 : Value) (g : w.grownBy w2 (some cb)) (cu : Cur w2 cb a n c y) (hcl : cb < w.heap.size)
    (k0 : w2.cell? ⟨w.heap.size, 0, none⟩ = some u0) (k1 : w2.cell? ⟨w.heap.size, 1, none⟩ = some u1) :
    ∃ Z, Z = (w2.setCell ⟨w.heap.size, 0, none⟩ v0).setCell ⟨w.heap.size, 1, none⟩ v1 ∧ Z.cell? ⟨w.heap.size, 0, none⟩ = some v0 ∧ Z.cell? ⟨w.heap.size, 1, none⟩ = some v1 ∧ w.grownBy Z (some cb) ∧ Cur Z cb a n c y := by
  refine ⟨_, rfl, ?_, ?_, ?_, ?_, ?_, ?_⟩
  · rw [World.cell?_setCell_other _ _ _ _ (by simp)]
    exact World.cell?_setCell_same _ _ _ k0
  · have k1' : (w2.setCell ⟨w.heap.size, 0, none⟩ v0).cell? ⟨w.heap.size, 1, none⟩ = some u1 := by
      rw [World.cell?_setCell_other _ _ _ _ (by simp)]; exact k1
    exact World.cell?_setCell_same _ _ _ k1'
  · refine ⟨g.os, g.tape, g.output, ?_, fun k hk hne => ?_⟩
    · have := g.size; simpa [World.setCell] using this
    · exact ((Below.heap_setCell _ _ _ _ (fun e => by first | omega | (simp at e; omega))).trans (Below.heap_setCell _ _ _ _ (fun e => by first | omega | (simp at e; omega)))).trans (g.block k hk hne)
  · rw [World.cell?_setCell_far _ _ _ _ (by simp; omega), World.cell?_setCell_far _ _ _ _ (by simp; omega)]; exact cu.1
  · rw [World.cell?_setCell_far _ _ _ _ (by simp; omega), World.cell?_setCell_far _ _ _ _ (by simp; omega)]; exact cu.2.1
  · rw [World.frozen?_setCell, World.frozen?_setCell]; exact cu.2.2

set_option maxRecDepth 100000 in
set_option maxHeartbeats 1000000 in
theorem spanC (cb B : Nat) (a : Option Addr) (n c x : Nat) (least : Int) (f : Nat → Int) (aT aS aL aE : Addr) (w : World) (hn : n ≤ 1048576) (hf : Byt f) (hcur : Cur w cb a n c (x : Int)) (hs : Seg w a n f) (hab : ∀ y, a = some y → y.block ≠ cb) (hE : Errs w B aT aS aL aE) (hBc : B ≤ cb)
    (hl0 : 1 ≤ least) (hl1 : least ≤ 1000000002) :
    Calls Tryz.prog 83 #[.pointer (some ⟨cb, 0, none⟩), .int .i64 least] w fun e w' => w.grownBy w' (some cb) ∧
      ((∃ (s t : Int) (x' : Nat), rdSpan f n least x = some ((s, t), x') ∧ least ≤ s ∧ s ≤ t ∧ t ≤ 1000000000 ∧ e = .returned (.tuple #[.agg #[.int .i64 s, .int .i64 t], .nilIface]) ∧ Cur w' cb a n c (x' : Int)) ∨
       (rdSpan f n least x = none ∧ ∃ (t : TypeId) (v : Value) (y : Int), e = .returned (.tuple #[.agg #[.int .i64 0, .int .i64 0], .iface t v]) ∧ Cur w' cb a n c y)) := by
  have hcl := hcur.lt
  obtain ⟨W, hW⟩ : ∃ W, w.alloc (.cells #[.int .i64 0, .int .i64 0] 73) = W := ⟨_, rfl⟩
  have bW : Below w.heap.size w W := by rw [← hW]; exact (Below.refl _ _).alloc (Nat.le_refl _) _
  have zW : W.heap.size = w.heap.size + 1 := by rw [← hW]; simp
  have gW : w.grownBy W (some cb) := grown_below (grown_refl w (some cb)) bW
  have HB : Hid (∀ w1, W.grownBy w1 (some cb) → w1.cell? ⟨w.heap.size, 0, none⟩ = some (.int .i64 0) ∧ w1.cell? ⟨w.heap.size, 1, none⟩ = some (.int .i64 0) ∧ w1.frozen? ⟨w.heap.size, 0, none⟩ = false ∧ w1.frozen? ⟨w.heap.size, 1, none⟩ = false) := by
    intro w1 g
    have hb := g.block w.heap.size (by omega) (by simp; omega)
    refine ⟨?_, ?_, ?_, ?_⟩
    · rw [World.cell?_of_block hb, ← hW]; simp
    · rw [World.cell?_of_block hb, ← hW]; simp
    · have e : w1.frozen? ⟨w.heap.size, 0, none⟩ = W.frozen? ⟨w.heap.size, 0, none⟩ := by unfold World.frozen?; rw [hb]
      rw [e, ← hW]; simp
    · have e : w1.frozen? ⟨w.heap.size, 1, none⟩ = W.frozen? ⟨w.heap.size, 1, none⟩ := by unfold World.frozen?; rw [hb]
      rw [e, ← hW]; simp
  have hclW : cb < W.heap.size := by omega
  have HU := hid (numberC cb B a n c x (1000000000 - least) f aT aS aL aE W hn hf (hcur.below bW hcl) (hs.grown gW hab) hab (hE.grown gW hBc hcl) hBc (by omega) (by omega))
  have HE := hid (hE.grown gW hBc hcl)
  have HS := hid (hs.grown gW hab)
  have HW := hid gW
  have e0 : IntKind.i64.wrap (1000000000 - least) = 1000000000 - least := wrapIn _ (by omega) (by omega)
  clear hE hcur hs gW bW
  go_enter Tryz.func83, Tryz.ntmps83
  go_wp2_with fail
  try rw [e0]
  try rw [hW]
  clear hW
  refine HU.out.mono ?_
  rintro e w1 ⟨g1, ⟨V, x1, hr, hV, rfl, cu⟩ | ⟨hr, t, v, y, rfl, cu⟩⟩
  · rw [rdI_nat] at hr
    have HU2 := hid (numberC cb B a n c x1 (1000000000 - (least + (V : Int))) f aT aS aL aE w1 hn hf cu (HS.out.grown g1 hab) hab (HE.out.grown g1 hBc hclW) hBc (by omega) (by omega))
    have HG := hid g1
    have HR := hid hr
    have e1 : IntKind.i64.wrap (least + (V : Int)) = least + (V : Int) := wrapIn _ (by omega) (by omega)
    have e2 : IntKind.i64.wrap (1000000000 - (least + (V : Int))) = 1000000000 - (least + (V : Int)) := wrapIn _ (by omega) (by omega)
    clear g1 hr cu HU HE
    go_wp2_with fail
    try rw [e2]
    refine HU2.out.mono ?_
    rintro e w2 ⟨g2, ⟨M, x2, hr2, hM, rfl, cu2⟩ | ⟨hr2, t, v, y, rfl, cu2⟩⟩
    · rw [rdI_nat] at hr2
      obtain ⟨k0, k1, z0, z1⟩ := HB.out _ (grown_trans HG.out g2)
      have HG2 := hid (grown_trans HW.out (grown_trans HG.out g2))
      have HR2 := hid hr2
      have HC2 := hid cu2
      have e3 : IntKind.i64.wrap (least + (V : Int) + (M : Int)) = least + (V : Int) + (M : Int) := wrapIn _ (by omega) (by omega)
      clear g2 hr2 cu2 HU2
      go_wp2_with fail
      obtain ⟨Z, hZ, q0, q1, HZ, HC3⟩ := box2 (.int .i64 (least + (V : Int))) (.int .i64 (least + (V : Int) + (M : Int))) HG2.out HC2.out hcl k0 k1
      rw [← hZ]
      clear hZ
      refine bodyPost_ret (v := .tuple #[.agg #[.int .i64 (least + (V : Int)), .int .i64 (least + (V : Int) + (M : Int))], .nilIface]) (by simp [results, Tryz.results83, go_sem, q0, q1]) rfl ⟨HZ, .inl ⟨least + (V : Int), least + (V : Int) + (M : Int), x2, ?_, by omega, by omega, by omega, rfl, HC3⟩⟩
      unfold rdSpan
      rw [HR.out]
      simp only [Option.bind_some]
      rw [HR2.out]
      rfl
    · rw [rdI_nat] at hr2
      obtain ⟨k0, k1, z0, z1⟩ := HB.out _ (grown_trans HG.out g2)
      have HG2 := hid (grown_trans HW.out (grown_trans HG.out g2))
      have HR2 := hid hr2
      have HC2 := hid cu2
      clear g2 hr2 cu2 HU2
      go_wp2_with fail
      obtain ⟨Z, hZ, q0, q1, HZ, HC3⟩ := box2 (.int .i64 0) (.int .i64 0) HG2.out HC2.out hcl k0 k1
      rw [← hZ]
      clear hZ
      refine bodyPost_ret (v := .tuple #[.agg #[.int .i64 0, .int .i64 0], .iface t v]) (by simp [results, Tryz.results83, go_sem, q0, q1]) rfl ⟨HZ, .inr ⟨?_, _, _, _, rfl, HC3⟩⟩
      unfold rdSpan
      rw [HR.out]
      simp only [Option.bind_some]
      rw [HR2.out]
      rfl
  · rw [rdI_nat] at hr
    obtain ⟨k0, k1, z0, z1⟩ := HB.out _ g1
    have HG := hid (grown_trans HW.out g1)
    have HR := hid hr
    have HC := hid cu
    clear g1 hr cu HU HE
    go_wp2_with fail
    obtain ⟨Z, hZ, q0, q1, HZ, HC3⟩ := box2 (.int .i64 0) (.int .i64 0) HG.out HC.out hcl k0 k1
    rw [← hZ]
    clear hZ
    refine bodyPost_ret (v := .tuple #[.agg #[.int .i64 0, .int .i64 0], .iface t v]) (by simp [results, Tryz.results83, go_sem, q0, q1]) rfl ⟨HZ, .inr ⟨?_, _, _, _, rfl, HC3⟩⟩
    unfold rdSpan
    rw [HR.out]
    rfl
end Go.Proofs.YtbimcammjohaoadGreatDoor
