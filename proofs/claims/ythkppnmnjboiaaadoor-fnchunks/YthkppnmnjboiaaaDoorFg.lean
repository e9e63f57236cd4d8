import Derived.Test.YthkppnmnjboiaaaDoorFf
import Derived.Test.YthkppnmnjboiaaaDoorFm
import Derived.Test.YthkppnmnjboiaaaDoorFo
namespace Go.Proofs.YthkppnmnjboiaaaDoor
open Go.ChangeShapes Go.WideShapes Go.ChangeAt Go.RowKit
set_option linter.unusedVariables false
set_option linter.unusedSimpArgs false

structure FxW (w : World) (B : Nat) (v : Value) (l : List Fx) : Prop where
  row : w.ownsRow B 41 2 v l.length (fxCells l)
  pay : ∀ i, i < l.length → Own w B (gFx l i).2.1 (gFx l i).2.2
theorem own_litF (w : World) (B : Nat) (hB : B ≤ w.heap.size) : FxW (w.alloc (.cells #[] 41)) B (.slice (some ⟨w.heap.size, 0, none⟩) 0 0) [] := by
  have := World.ownsRow_lit (base := B) (e := 41) (size := 2) w #[] 0 hB (by unfold maxLen; omega) rfl
  exact ⟨by simpa [fxCells] using this, fun i hi => by simp at hi⟩
theorem FxW.kept {w w' : World} {B : Nat} {v : Value} {l : List Fx} (h : FxW w B v l) {row : Option Nat} (hg : w.grownBy w' row) (hr : ∀ k, row = some k → v.ownBlock ≠ some k ∧ ∀ i, i < l.length → (gFx l i).2.1.ownBlock ≠ some k) : FxW w' B v l := by
  refine ⟨World.ownsRow.kept h.row hg ?_, fun i hi => (h.pay i hi).gr hg (fun g e1 e2 => (hr g e2.symm).2 i hi e1)⟩
  cases e : v.ownBlock with
  | none => exact .inl rfl
  | some g => exact .inr (fun e2 => (hr g e2.symm).1 e)

def fdW (w : World) (x0 x1 x2 : Value) : World :=
  (((w.alloc (.cells #[x0, x1, x2] 25)).alloc (.cells #[.slice none 0 0, .int .i64 0, .int .i64 0] 25)).alloc (.cells #[] 41)).alloc (.cells #[] 5)
structure FdI (w W : World) (x0 x1 x2 : Value) : Prop where
  bel : Below w.heap.size w W
  size : W.heap.size = w.heap.size + 4
  c0 : W.cell? ⟨w.heap.size, 0, none⟩ = some x0
  c1 : W.cell? ⟨w.heap.size, 1, none⟩ = some x1
  c2 : W.cell? ⟨w.heap.size, 2, none⟩ = some x2
  r0 : W.cell? ⟨w.heap.size + 1, 0, none⟩ = some (.slice none 0 0)
  r1 : W.cell? ⟨w.heap.size + 1, 1, none⟩ = some (.int .i64 0)
  r2 : W.cell? ⟨w.heap.size + 1, 2, none⟩ = some (.int .i64 0)
  z0 : W.frozen? ⟨w.heap.size + 1, 0, none⟩ = false
  z1 : W.frozen? ⟨w.heap.size + 1, 1, none⟩ = false
  z2 : W.frozen? ⟨w.heap.size + 1, 2, none⟩ = false
  fr : FxW W (w.heap.size + 2) (.slice (some ⟨w.heap.size + 1 + 1, 0, none⟩) 0 0) []
  bf : Own W (w.heap.size + 2) (.slice (some ⟨w.heap.size + 1 + 1 + 1, 0, none⟩) 0 0) []
theorem fdI (w : World) (x0 x1 x2 : Value) : FdI w (fdW w x0 x1 x2) x0 x1 x2 := by
  unfold fdW
  obtain ⟨w1, h1⟩ : ∃ w1, w.alloc (.cells #[x0, x1, x2] 25) = w1 := ⟨_, rfl⟩
  have s1 : w1.heap.size = w.heap.size + 1 := by rw [← h1]; simp
  have b1 : Below w.heap.size w w1 := by rw [← h1]; exact (Below.refl _ _).alloc (Nat.le_refl _) _
  have p0 : w1.cell? ⟨w.heap.size, 0, none⟩ = some x0 := by rw [← h1]; simp
  have p1 : w1.cell? ⟨w.heap.size, 1, none⟩ = some x1 := by rw [← h1]; simp
  have p2 : w1.cell? ⟨w.heap.size, 2, none⟩ = some x2 := by rw [← h1]; simp
  rw [h1]
  clear h1
  obtain ⟨w2, h2⟩ : ∃ w2, w1.alloc (.cells #[.slice none 0 0, .int .i64 0, .int .i64 0] 25) = w2 := ⟨_, rfl⟩
  have s2 : w2.heap.size = w1.heap.size + 1 := by rw [← h2]; simp
  have b2 : Below w1.heap.size w1 w2 := by rw [← h2]; exact (Below.refl _ _).alloc (Nat.le_refl _) _
  have q0 : w2.cell? ⟨w1.heap.size, 0, none⟩ = some (.slice none 0 0) := by rw [← h2]; simp
  have q1 : w2.cell? ⟨w1.heap.size, 1, none⟩ = some (.int .i64 0) := by rw [← h2]; simp
  have q2 : w2.cell? ⟨w1.heap.size, 2, none⟩ = some (.int .i64 0) := by rw [← h2]; simp
  have f0 : w2.frozen? ⟨w1.heap.size, 0, none⟩ = false := by rw [← h2]; simp
  have f1 : w2.frozen? ⟨w1.heap.size, 1, none⟩ = false := by rw [← h2]; simp
  have f2 : w2.frozen? ⟨w1.heap.size, 2, none⟩ = false := by rw [← h2]; simp
  rw [h2]
  clear h2
  have b3 : Below w2.heap.size w2 ((w2.alloc (.cells #[] 41)).alloc (.cells #[] 5)) := bel2 _ _ _
  have fr := own_litF w2 (w.heap.size + 2) (by omega)
  have s3 : (w2.alloc (.cells #[] 41)).heap.size = w2.heap.size + 1 := by simp
  have bf := own_lit0 (w2.alloc (.cells #[] 41)) (w.heap.size + 2) (by omega)
  have e1 : w1.heap.size = w.heap.size + 1 := s1
  have e2 : w2.heap.size = w.heap.size + 1 + 1 := by omega
  rw [s3, e2] at bf
  rw [e2] at fr
  rw [e1] at q0 q1 q2 f0 f1 f2
  have L0 : w.heap.size < w2.heap.size := by omega
  have L1 : w.heap.size + 1 < w2.heap.size := by omega
  have L2 : w.heap.size < w1.heap.size := by omega
  have cc := fun i => (b3.cell (p := ⟨w.heap.size, i, none⟩) L0).trans (b2.cell (p := ⟨w.heap.size, i, none⟩) L2)
  have cr := fun i => (b3.cell (p := ⟨w.heap.size + 1, i, none⟩) L1)
  have cf := fun i => (b3.frozen (p := ⟨w.heap.size + 1, i, none⟩) L1)
  exact ⟨(keepS (keepS b1 b2) b3), by simp; omega, (cc 0).trans p0, (cc 1).trans p1, (cc 2).trans p2, (cr 0).trans q0, (cr 1).trans q1, (cr 2).trans q2, (cf 0).trans f0, (cf 1).trans f1, (cf 2).trans f2,
    ⟨World.ownsRow.alloc fr.row _, fun i hi => World.ownsRow.alloc (fr.pay i hi) _⟩, bf⟩
theorem payl_own0 {w : World} {B : Nat} {v : Value} {f : Nat → Int} {l : Nat} {t : TypeId} (ht : t = 5) (h : w.ownsRow B t 1 v l (cells8 f l)) : Own w B v (payl f l) := by
  subst ht
  unfold Own
  rw [payl_len]
  have e : (payl f l).map (Value.int .u8) = cells8 f l := by simp [payl, cells8]
  rw [e]; exact h
theorem box3E {w1 : World} {B : Nat} {u0 u1 u2 : Value} (x y z : Value) (q0 : w1.cell? ⟨B, 0, none⟩ = some u0) (q1 : w1.cell? ⟨B, 1, none⟩ = some u1) (q2 : w1.cell? ⟨B, 2, none⟩ = some u2) :
    (((w1.setCell ⟨B, 0, none⟩ x).setCell ⟨B, 1, none⟩ y).setCell ⟨B, 2, none⟩ z).cell? ⟨B, 0, none⟩ = some x ∧ (((w1.setCell ⟨B, 0, none⟩ x).setCell ⟨B, 1, none⟩ y).setCell ⟨B, 2, none⟩ z).cell? ⟨B, 1, none⟩ = some y ∧ (((w1.setCell ⟨B, 0, none⟩ x).setCell ⟨B, 1, none⟩ y).setCell ⟨B, 2, none⟩ z).cell? ⟨B, 2, none⟩ = some z := by
  obtain ⟨a0, a1⟩ := boxE x y q0 q1
  have a2 : ((w1.setCell ⟨B, 0, none⟩ x).setCell ⟨B, 1, none⟩ y).cell? ⟨B, 2, none⟩ = some u2 := (World.cell?_setCell_other _ _ _ _ (by simp)).trans ((World.cell?_setCell_other _ _ _ _ (by simp)).trans q2)
  exact ⟨(World.cell?_setCell_other _ _ _ _ (by simp)).trans a0, (World.cell?_setCell_other _ _ _ _ (by simp)).trans a1, World.cell?_setCell_same _ _ _ a2⟩
theorem grown3 (w : World) (B : Nat) (x y z : Value) : w.grownBy (((w.setCell ⟨B, 0, none⟩ x).setCell ⟨B, 1, none⟩ y).setCell ⟨B, 2, none⟩ z) (some B) :=
  ((grownSetF w ⟨B, 0, none⟩ x).trans (grownSetF _ ⟨B, 1, none⟩ y)).trans (grownSetF _ ⟨B, 2, none⟩ z)
theorem payl_own2 {w : World} {B : Nat} {v : Value} {zs : List Int} {f : Nat → Int} {l : Nat} (h : w.ownsRow B 5 1 v (zs.length + l) (zs.map (Value.int .u8) ++ cells8 f l)) : Own w B v (zs ++ payl f l) := by
  unfold Own
  rw [List.length_append, List.map_append, payl_len]
  have e : (payl f l).map (Value.int .u8) = cells8 f l := by simp [payl, cells8]
  rw [e]; exact h

set_option maxRecDepth 100000 in
set_option maxHeartbeats 1000000 in
theorem specFeedFail (g1 n1 c1 : Nat) (a2 : Option Addr) (n2 c2 : Nat) (f : Nat → Int) (tk fl : Int) (w : World) (hn : n1 ≤ 1048576) (hfl : fl ≠ 0) (h1 : Seg w (some ⟨g1, 0, none⟩) n1 f) :
    Calls Tryd.prog 5 #[.agg #[.slice (some ⟨g1, 0, none⟩) n1 c1, .int .i64 tk, .int .i64 fl], .slice a2 n2 c2] w fun e w' => Below w.heap.size w w' ∧
      ∃ v fv, e = .returned (.tuple #[.agg #[v, .int .i64 tk, .int .i64 fl], fv]) ∧ Own w' (w.heap.size + 2) v (payl f n1) ∧ FxW w' (w.heap.size + 2) fv [] := by
  obtain ⟨i0, hi, hz0, hz1, hz2⟩ := info_parts Tryd.infoByte
  have d1 : (fl != 0) = true := by simpa using hfl
  have HI := hid (fdI w (.slice (some ⟨g1, 0, none⟩) n1 c1) (.int .i64 tk) (.int .i64 fl))
  obtain ⟨W, hW⟩ : ∃ W, fdW w (.slice (some ⟨g1, 0, none⟩) n1 c1) (.int .i64 tk) (.int .i64 fl) = W := ⟨_, rfl⟩
  rw [hW] at HI
  unfold fdW at hW
  have HS := hid (h1.below HI.out.bel)
  clear h1
  have k0 := HI.out.c0
  have k1 := HI.out.c1
  have k2 := HI.out.c2
  have ho := HI.out.bf
  unfold Own at ho
  go_enter Tryd.func5, Tryd.ntmps5
  go_wp2_with (at_builtin; (try rw [hW]); refine wpList_app_at rfl _ _ 22 rfl (w.heap.size + 2) 5 i0 (.int .u8 0) 1 1 Tryd.underlying22 hi hz0 hz1 hz2 rfl (by decide) _ _ _ rfl ho ⟨g1, 0, none⟩ n1 c1 (cells8 f n1) rfl (by simp [cells8]) ?c1 ?c2 ?c3 ?c4 ?c5 ?_)
  case c1 => first | exact seg_newsA HS.out | exact seg_news HS.out
  case c2 => intro u hu; obtain ⟨i, _, rfl⟩ := List.mem_map.1 hu; rfl
  case c3 => unfold maxLen; first | omega | (simp; omega)
  case c4 => first | omega | (simp; omega)
  case c5 => have := HI.out.size; omega
  intro v4 w4 hown4 hgr4 hloc4
  have o4 : Own w4 (w.heap.size + 2) v4 (payl f n1) := payl_own0 rfl hown4
  obtain ⟨g4, cp4, rfl, hg4, hg4'⟩ := own_payl o4 (some_of hloc4)
  have B4 : Below (w.heap.size + 3) W w4 := (Below.refl _ W).grown hgr4 (by have := HI.out.size; omega) (fun q hq => by simp [Value.ownBlock] at hq; omega)
  have HB4 := hid (HI.out.bel.trans (B4.mono (by omega)))
  have HF4 : Hid (FxW w4 (w.heap.size + 2) (.slice (some ⟨w.heap.size + 1 + 1, 0, none⟩) 0 0) []) := hid (HI.out.fr.kept hgr4 (fun k hk => ⟨fun e => by simp [Value.ownBlock] at hk e; omega, fun i hi => by simp at hi⟩))
  have cc := fun (i : Nat) (b : Nat) (hb : b < w.heap.size + 3) => B4.cell (p := ⟨b, i, none⟩) hb
  have cf := fun (i : Nat) (b : Nat) (hb : b < w.heap.size + 3) => B4.frozen (p := ⟨b, i, none⟩) hb
  have q0 := (cc 0 w.heap.size (by omega)).trans HI.out.c0
  have q1 := (cc 1 w.heap.size (by omega)).trans HI.out.c1
  have q2 := (cc 2 w.heap.size (by omega)).trans HI.out.c2
  have r0 := (cc 0 (w.heap.size + 1) (by omega)).trans HI.out.r0
  have r1 := (cc 1 (w.heap.size + 1) (by omega)).trans HI.out.r1
  have r2 := (cc 2 (w.heap.size + 1) (by omega)).trans HI.out.r2
  have z0 := (cf 0 (w.heap.size + 1) (by omega)).trans HI.out.z0
  have z1 := (cf 1 (w.heap.size + 1) (by omega)).trans HI.out.z1
  have z2 := (cf 2 (w.heap.size + 1) (by omega)).trans HI.out.z2
  have hgx : w.heap.size + 3 ≤ g4 := by
    rcases hloc4 with h | h
    · simp [Value.ownBlock] at h; omega
    · have h' : (Value.slice (some ⟨g4, 0, none⟩) n1 cp4).ownBlock = some W.heap.size := h
      simp [Value.ownBlock] at h'; have := HI.out.size; omega
  have HO4 := hid o4
  clear hown4 hgr4 hloc4 o4 B4 cc cf k0 k1 k2 ho hW
  go_wp2_with fail
  have e3 := box3E (.slice (some ⟨g4, 0, none⟩) n1 cp4) (.int .i64 tk) (.int .i64 fl) r0 r1 r2
  have G3 := grown3 w4 (w.heap.size + 1) (.slice (some ⟨g4, 0, none⟩) n1 cp4) (.int .i64 tk) (.int .i64 fl)
  obtain ⟨W5, hW5⟩ : ∃ W5, ((w4.setCell ⟨w.heap.size + 1, 0, none⟩ (.slice (some ⟨g4, 0, none⟩) n1 cp4)).setCell ⟨w.heap.size + 1, 1, none⟩ (.int .i64 tk)).setCell ⟨w.heap.size + 1, 2, none⟩ (.int .i64 fl) = W5 := ⟨_, rfl⟩
  rw [hW5] at e3 G3 ⊢
  obtain ⟨m0, m1, m2⟩ := e3
  have O5 : Own W5 (w.heap.size + 2) (.slice (some ⟨g4, 0, none⟩) n1 cp4) (payl f n1) := HO4.out.gr G3 (fun b hb e => by simp [Value.ownBlock] at hb; injection e with e; omega)
  have F5 := HF4.out.kept G3 (fun k hk => ⟨fun e => by injection hk with hk; simp [Value.ownBlock] at e; omega, fun i hi => by simp at hi⟩)
  have B5 := HB4.out.grown G3 HB4.out.size (fun k hk => by injection hk with hk; omega)
  refine bodyPost_ret (v := .tuple #[.agg #[.slice (some ⟨g4, 0, none⟩) n1 cp4, .int .i64 tk, .int .i64 fl], .slice (some ⟨w.heap.size + 1 + 1, 0, none⟩) 0 0]) (by simp [results, Tryd.results5, go_sem, m0, m1, m2]) rfl ?_
  exact ⟨B5, _, _, rfl, O5, F5⟩
end Go.Proofs.YthkppnmnjboiaaaDoor
